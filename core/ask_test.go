package core_test

import (
	"strconv"
	"testing"

	"stickler/api"
	"stickler/life"
	"stickler/preface"
)

const top = api.MaxStream

func TestP393Preface(t *testing.T) {
	k := made(t, conf())
	asked(t, k, first(), false, life.Pass, 0)
	wrong := preface.Text()
	wrong[23] = 0
	for _, b := range [][]byte{nil, wrong, preface.Text()[:23], append(preface.Text(), 0)} {
		k = made(t, conf())
		asked(t, k, api.Raw{Type: api.Preface, Body: b}, true, life.Break, api.RulePreface)
	}
	// Nothing else is asked of it.
	k = made(t, conf())
	look(t, k, first())
	says(t, k, api.Values{}, true, life.Pass, 0)
	k = made(t, conf(), sets(server), ping(server, 1))
	asked(t, k, first(), false, life.Pass, 0)
}

func TestP393First(t *testing.T) {
	for _, l := range [][]api.Raw{{first(), ping(client, 1)}, {ping(server, 1)}, {ack(server)}, {first(), ack(client)}, {raw(server, 77, 0, 0)},
		{raw(server, api.Ping, 0, 0, 1)}, {first(), sets(client), raw(server, api.Priority, 0, 1, 1, 2, 3, 4, 5)}, {first(), sets(server), get(1, end)}, {first(), goOn(client, 1, 0)}, {raw(server, api.Settings, 255, 0, 1)}} {
		k := made(t, conf(), l[:len(l)-1]...)
		asked(t, k, l[len(l)-1], true, life.Break, api.RuleFirst)
		says(t, k, api.Values{}, true, life.Break, api.RuleFirst) // ahead of size
	}
	for _, l := range [][]api.Raw{{sets(server)}, {first(), sets(client)}, {first(), sets(client), sets(server), ping(server, 1)}, {sets(server), ping(server, 1)}, {sets(server, 1, 2, 3, 4)}} {
		k := made(t, conf(), l[:len(l)-1]...)
		asked(t, k, l[len(l)-1], true, life.Pass, 0)
	}
	k := made(t, conf())
	asked(t, k, raw(server, api.Settings, 0, 1), true, life.Break, api.RuleForm) // it is SETTINGS all the same
}

func TestP393Size(t *testing.T) {
	values := func(n int) api.Values {
		return api.Values{Frame: n, Window: 65535, Push: 1, Table: 4096, Streams: 9}
	}
	for _, r := range []api.Raw{data(client, 1, 100, 0), raw(server, 77, 0, 0, make([]byte, 100)...), raw(client, api.Ping, 0, 0, make([]byte, 100)...), raw(server, api.Headers, 0, 1, make([]byte, 100)...), goOn(client, 5, 0, make([]byte, 100)...)} {
		for n, want := range map[int]bool{100: false, 101: false, 99: true, 0: true, -1: true, 16384: false, top: false} {
			k := made(t, conf(), list(both(), get(1, 0))...)
			look(t, k, r)
			if _, rule := k.Ask(values(n), true); (rule == api.RuleSize) != want {
				t.Errorf("%+v, %d: %d", r, n, rule)
			}
		}
	}
	k := made(t, conf(), both()...)
	look(t, k, raw(client, 77, 0, 0))
	says(t, k, values(0), true, life.Ignore, 0)
	says(t, k, values(-1), true, life.Break, api.RuleSize)
}

func TestP393Order(t *testing.T) {
	open := list(get(1, 0), get(3, 0), cut(status(1, 0), 0)[0])
	for _, r := range []api.Raw{ping(server, 1), sets(server), ack(server), data(server, 1, 1, 0), goOn(server, 3, 0), goOn(server, 3, whole), raw(server, 77, 0, 1), raw(server, api.Priority, 0, 1, 0, 0, 0, 0, 0),
		status(1, 0), push(1, 2), reset(server, 1), grow(server, 1, 1), away(server, 1), raw(server, api.Ping, 0, 0, 1), raw(server, 255, 0, 0), goOn(server, 0, 0)} {
		breaks(t, api.RuleOrder, open, r)
	}
	passes(t, open, goOn(server, 1, 0))
	passes(t, open, goOn(server, 1, 0), goOn(server, 1, whole, bytes(nil, fields(":status=200"))...))
	passes(t, open, ping(client, 1)) // the other side's go by themselves
	passes(t, open, get(5, end))
	passes(t, open, goOn(server, 1, whole, bytes(nil, fields(":status=200"))...), ping(server, 1))
	for _, r := range []api.Raw{goOn(client, 1, 0), goOn(client, 1, whole), goOn(server, 3, whole), goOn(client, 0, whole)} {
		breaks(t, api.RuleOrder, get(1, 0), r)
	}
	breaks(t, api.RuleOrder, get(1, 0), cut(push(1, 2), 6)[0], status(1, 0))
	passes(t, get(1, 0), cut(push(1, 2), 6))
}

func TestP393Unknown(t *testing.T) {
	for _, kind := range []int{10, 77, 255} {
		for _, stream := range []int{0, 1, 2, 3, 4, top} {
			ignores(t, get(3, 0), reset(client, 3), raw(client, kind, 255, stream, 1, 2, 3))
			ignores(t, raw(server, kind, 0, stream))
		}
	}
}

func TestP393Form(t *testing.T) {
	for _, r := range []api.Raw{raw(client, api.Data, api.FlagPadded, 1, 5, 0), raw(server, api.Ping, 0, 0, 1), raw(server, api.Ping, api.FlagAck, 1, 1, 2, 3, 4, 5, 6, 7, 8), raw(client, api.Priority, 0, 1, 1, 2, 3, 4), raw(client, api.Settings, api.FlagAck, 0, 0, 1, 0, 0, 0, 0),
		raw(server, api.Reset, 0, 0, 0, 0, 0, 0), raw(client, api.Goaway, 0, 0, 1), raw(client, api.Window, 0, 0, 1), raw(client, api.Promise, whole, 1, 0, 0, 0), raw(client, api.Headers, whole, 0), raw(client, api.Settings, 0, 0, 1)} {
		breaks(t, api.RuleForm, r)
		breaks(t, api.RuleForm, get(1, 0), r)
	}
	breaks(t, api.RuleForm, get(1, 0), cut(status(1, 0), 0)[0], raw(client, api.Ping, 0, 0, 1))
}

func TestP393Easy(t *testing.T) {
	for _, stream := range []int{1, 2, 3, 4, 5, top} {
		ignores(t, get(3, end), status(3, end), get(5, 0), raw(client, api.Priority, 0, stream, 0, 0, 0, 0, 0))
		ignores(t, raw(server, api.Priority, 0, stream, 0, 0, 0, 0, 0))
	}
	passes(t, ping(client, 1))
	ignores(t, pong(client, 1))
	ignores(t, ping(client, 1), pong(client, 1)) // its own
	passes(t, ping(client, 1), pong(server, 1))
	ignores(t, ping(client, 1), pong(server, 2))
	ignores(t, ping(client, 1), pong(server, 1), pong(server, 1))
	passes(t, ping(client, 1), ping(client, 1), pong(server, 1), pong(server, 1))
	passes(t, ping(client, 1), ping(client, 2), pong(server, 2), pong(server, 1))
}

func TestP393Away(t *testing.T) {
	passes(t, away(client, 0))
	passes(t, away(server, top))
	passes(t, away(server, top), away(server, top))
	passes(t, away(server, top), away(server, 7), away(server, 6))
	breaks(t, api.RuleAway, away(server, 7), away(server, 8))
	breaks(t, api.RuleAway, away(client, 0), away(client, 1))
	passes(t, away(client, 0), away(server, 1))
	passes(t, get(1, 0), away(server, 0))
}

func TestP393Ack(t *testing.T) {
	passes(t, ack(client))
	passes(t, ack(server))
	breaks(t, api.RuleAck, ack(client), ack(client))
	breaks(t, api.RuleAck, ack(client), sets(client), ack(client))
	passes(t, ack(client), sets(server), ack(client))
	passes(t, sets(server), ack(client), ack(client))
	breaks(t, api.RuleAck, sets(server), ack(client), ack(client), ack(client))
	k := made(t, conf(), first(), sets(client))
	asked(t, k, ack(client), true, life.Break, api.RuleAck)
}

func TestP393Value(t *testing.T) {
	for _, r := range []api.Raw{sets(client, api.SetPush, 2), sets(server, api.SetPush, 1), sets(client, api.SetWindow, 1<<31), sets(server, api.SetFrame, 16383), sets(server, api.SetFrame, 1<<24), sets(server, 9, 9, api.SetFrame, 0)} {
		breaks(t, api.RuleValue, r)
	}
	for _, r := range []api.Raw{sets(client), sets(client, api.SetPush, 1), sets(server, api.SetPush, 0), sets(client, api.SetWindow, top), sets(server, api.SetFrame, 16384, api.SetFrame, api.MaxFrame), sets(server, 0, 1<<32-1, 65535, 5), sets(client, api.SetTable, 1<<32-1, api.SetStreams, 1<<32-1, api.SetList, 0)} {
		passes(t, r)
	}
	// Value is asked ahead of spread.
	breaks(t, api.RuleValue, get(1, 0), grow(client, 1, 10), sets(client, api.SetWindow, top, api.SetPush, 5))
}

func TestP393Spread(t *testing.T) {
	breaks(t, api.RuleSpread, get(1, 0), grow(client, 1, 1), sets(client, api.SetWindow, top))
	passes(t, get(1, 0), grow(client, 1, 1), sets(client, api.SetWindow, top-1))
	passes(t, get(1, 0), grow(client, 1, 1), sets(server, api.SetWindow, top))
	passes(t, get(1, 0), grow(client, 0, 1), sets(client, api.SetWindow, top))
	passes(t, get(1, 0), grow(client, 1, 1), sets(client, api.SetWindow, top, api.SetWindow, 5))
	breaks(t, api.RuleSpread, get(1, 0), grow(client, 1, 1), sets(client, api.SetWindow, 5, api.SetWindow, top))
	breaks(t, api.RuleSpread, get(1, 0), get(3, 0), grow(client, 3, 1), sets(client, api.SetWindow, top))
	// The newest values count, acknowledged or not, and other settings leave them.
	passes(t, get(1, 0), sets(client, api.SetWindow, 5), grow(client, 1, top-5), sets(client, api.SetFrame, 20000))
	breaks(t, api.RuleSpread, get(1, 0), sets(client, api.SetWindow, 5), grow(client, 1, top-5), sets(client, api.SetWindow, 6))
	// What was taken makes room for it.
	passes(t, get(1, 0), grow(client, 1, 1), status(1, 0), data(server, 1, 1, 0), sets(client, api.SetWindow, top))
	// Streams that are Reserved count, those that are Closed do not.
	breaks(t, api.RuleSpread, get(1, 0), push(1, 2), grow(client, 2, 1), sets(client, api.SetWindow, top))
	passes(t, get(1, 0), grow(client, 1, 1), reset(server, 1), sets(client, api.SetWindow, top))
	breaks(t, api.RuleSpread, get(1, 0), grow(server, 1, 1), sets(server, api.SetWindow, top))
	breaks(t, api.RuleSpread, get(1, end), grow(server, 1, 1), sets(server, api.SetWindow, top))
}

func TestP393Window(t *testing.T) {
	breaks(t, api.RuleStep, grow(client, 0, 0))
	breaks(t, api.RuleWindow, grow(client, 0, top-65534))
	passes(t, grow(client, 0, top-65535))
	breaks(t, api.RuleWindow, grow(client, 0, top-65535), grow(client, 0, 1))
	passes(t, grow(client, 0, top-65535), grow(server, 0, top-65535))
	breaks(t, api.RuleWindow, sets(client, api.SetWindow, 0), grow(client, 0, top)) // settings are of streams
	passes(t, get(1, 0), status(1, 0), data(server, 1, 9, 0), grow(client, 0, top-65535+9))
	breaks(t, api.RuleWindow, get(1, 0), status(1, 0), data(server, 1, 9, 0), grow(client, 0, top-65535+10))

	breaks(t, api.RuleStep, get(1, 0), grow(client, 1, 0))
	passes(t, get(1, 0), grow(client, 1, 1))
	passes(t, get(1, 0), grow(server, 1, top-65535))
	breaks(t, api.RuleWindow, get(1, 0), grow(server, 1, top-65534))
	breaks(t, api.RuleWindow, get(1, 0), grow(server, 1, 1), grow(server, 1, top-65535))
	passes(t, get(1, 0), sets(server, api.SetWindow, 0), grow(server, 1, top))
	breaks(t, api.RuleWindow, get(1, 0), sets(server, api.SetWindow, 70000), grow(server, 1, top-65535))
	passes(t, get(1, 0), sets(client, api.SetWindow, 70000), grow(server, 1, top-65535))
	passes(t, get(1, 0), get(3, 0), grow(server, 1, top-65535), grow(server, 3, top-65535))
	passes(t, get(1, 0), data(client, 1, 5, 0), grow(server, 1, top-65530))
}

func TestP393WindowOf(t *testing.T) {
	breaks(t, api.RuleIdle, grow(client, 1, 1))
	breaks(t, api.RuleIdle, grow(client, 1, 0)) // ahead of step
	breaks(t, api.RuleForgotten, get(3, 0), grow(client, 1, 0))
	breaks(t, api.RuleReserved, get(1, 0), push(1, 2), grow(server, 2, 1))
	passes(t, get(1, 0), push(1, 2), grow(client, 2, 1))
	breaks(t, api.RuleStep, get(1, 0), push(1, 2), grow(client, 2, 0))
	ignores(t, get(1, end), status(1, end), grow(client, 1, 0))
	ignores(t, get(1, end), reset(client, 1), grow(server, 1, top))
	breaks(t, api.RuleReset, get(1, end), reset(client, 1), grow(client, 1, 1))
	// Beyond: of who sends alone.
	ignores(t, away(server, 1), grow(client, 3, 0))
	ignores(t, get(3, 0), away(server, 1), grow(client, 3, 0))
	breaks(t, api.RuleIdle, away(server, 1), grow(client, 1, 1))
	breaks(t, api.RuleIdle, away(server, 1), grow(client, 4, 1))
	breaks(t, api.RuleIdle, away(server, 1), grow(server, 3, 1))
	breaks(t, api.RuleIdle, away(client, 1), grow(client, 3, 1))
	ignores(t, away(client, 1), grow(server, 2, 1))
	ignores(t, get(3, 0), reset(client, 3), away(server, 1), grow(client, 3, 1))
}

func TestP393Reset(t *testing.T) {
	breaks(t, api.RuleIdle, reset(client, 1))
	breaks(t, api.RuleForgotten, get(3, 0), reset(server, 1))
	passes(t, get(1, 0), reset(client, 1))
	passes(t, get(1, 0), reset(server, 1))
	passes(t, get(1, 0), push(1, 2), reset(server, 2))
	passes(t, get(1, 0), push(1, 2), reset(client, 2))
	ignores(t, get(1, 0), reset(client, 1), reset(server, 1))
	breaks(t, api.RuleReset, get(1, 0), reset(client, 1), reset(client, 1))
	ignores(t, get(1, end), status(1, end), reset(client, 1))
	ignores(t, away(server, 0), reset(client, 1))
	breaks(t, api.RuleIdle, away(server, 1), reset(client, 1))
	ignores(t, away(client, 0), reset(server, 2))
	ignores(t, get(1, 0), reset(client, 1), away(server, 0), reset(client, 1))
}

func TestP393Data(t *testing.T) {
	passes(t, get(1, 0), data(client, 1, 0, 0))
	passes(t, get(1, 0), data(client, 1, 16384, end))
	breaks(t, api.RuleIdle, data(client, 1, 1, 0))
	breaks(t, api.RuleEnded, get(1, end), data(client, 1, 1, 0))
	breaks(t, api.RuleEnded, get(1, end), data(client, 1, 0, end))
	breaks(t, api.RuleBody, get(1, end), data(server, 1, 1, 0))
	passes(t, get(1, end), status(1, 0), data(server, 1, 1, 0))
	breaks(t, api.RuleReserved, get(1, 0), push(1, 2), data(server, 2, 1, 0))
	breaks(t, api.RuleClosed, get(1, end), status(1, end), data(client, 1, 1, 0))
	ignores(t, get(1, 0), reset(server, 1), data(client, 1, 1, 0))
	ignores(t, away(server, 0), data(client, 1, 1, 0))
	breaks(t, api.RuleIdle, away(server, 0), data(client, 2, 1, 0))
	ignores(t, get(1, 0), away(server, 0), data(client, 1, 1, 0))
	// Length, by what Data has.
	post := headers(client, 1, 0, ":method=POST", ":scheme=http", ":path=/", "content-length=5")
	passes(t, post, data(client, 1, 5, end))
	passes(t, post, data(client, 1, 4, 0))
	breaks(t, api.RuleLength, post, data(client, 1, 4, end))
	breaks(t, api.RuleLength, post, data(client, 1, 6, 0))
	passes(t, post, raw(client, api.Data, api.FlagPadded|end, 1, 3, 1, 2, 3, 4, 5, 0, 0, 0))
	breaks(t, api.RuleLength, post, raw(client, api.Data, api.FlagPadded|end, 1, 3, 1, 2, 3, 4, 0, 0, 0))
}

func TestP393DataWindows(t *testing.T) {
	most := many(3, data(client, 1, 16384, 0)) // 49152: 16383 are left
	passes(t, get(1, 0), most, data(client, 1, 16383, 0))
	breaks(t, api.RuleConn, get(1, 0), most, data(client, 1, 16384, 0))
	passes(t, get(1, 0), most, data(client, 1, 16383, 0), data(client, 1, 0, 0))
	breaks(t, api.RuleConn, get(1, 0), most, data(client, 1, 16383, 0), data(client, 1, 1, 0))
	breaks(t, api.RuleStream, get(1, 0), grow(server, 0, 9), most, data(client, 1, 16384, 0))
	passes(t, get(1, 0), grow(server, 0, 9), grow(server, 1, 1), most, data(client, 1, 16384, 0))
	passes(t, get(1, 0), most, data(client, 1, 16383, 0), grow(server, 0, 5), get(3, 0), data(client, 3, 5, 0))
	breaks(t, api.RuleConn, get(1, 0), most, data(client, 1, 16383, 0), grow(server, 0, 5), get(3, 0), data(client, 3, 6, 0))
	// Padding counts for both.
	padded := raw(client, api.Data, api.FlagPadded, 1, append([]byte{2, 7}, 0, 0)...)
	breaks(t, api.RuleStream, get(1, 0), sets(server, api.SetWindow, 3), padded)
	passes(t, get(1, 0), sets(server, api.SetWindow, 4), padded)
	breaks(t, api.RuleConn, get(1, 0), most, data(client, 1, 16380, 0), padded)
	// Of the values those that are asked.
	for window, want := range map[int]int{0: api.RuleStream, 4: api.RuleStream, 5: 0, 6: 0, top: 0, -1: api.RuleStream, 1 << 31: api.RuleStream} {
		k := made(t, conf(), list(both(), get(1, 0))...)
		look(t, k, data(client, 1, 5, 0))
		v := newest(k, get(1, 0))
		v.Window = window
		if _, rule := k.Ask(v, true); rule != want {
			t.Errorf("Window %d: %d, want %d", window, rule, want)
		}
	}
	// A room below 0 lets just what has no bytes.
	lower := list(get(1, 0), data(client, 1, 9, 0), sets(server, api.SetWindow, 5))
	passes(t, lower, data(client, 1, 0, 0))
	breaks(t, api.RuleStream, lower, data(client, 1, 1, 0))
	breaks(t, api.RuleStream, lower, grow(server, 1, 4), data(client, 1, 1, 0))
	passes(t, lower, grow(server, 1, 5), data(client, 1, 1, 0))
	// The connection's is asked ahead of the stream's, and of what is ignored, but behind what its stream's state says.
	breaks(t, api.RuleConn, get(1, 0), sets(server, api.SetWindow, 0), get(3, 0), reset(server, 3), many(3, data(client, 3, 16384, 0)), data(client, 1, 16384, 0))
	breaks(t, api.RuleConn, get(1, 0), reset(server, 1), most, data(client, 1, 16384, 0))
	ignores(t, get(1, 0), reset(server, 1), most, data(client, 1, 16383, 0))
	breaks(t, api.RuleConn, away(server, 0), most, data(client, 1, 16384, 0))
	breaks(t, api.RuleReset, get(1, 0), reset(client, 1), get(3, 0), many(3, data(client, 3, 16384, 0)), data(client, 1, 16384, 0))
	// Stream is asked ahead of body.
	breaks(t, api.RuleStream, get(1, 0), sets(client, api.SetWindow, 0), data(server, 1, 1, 0))
}

func TestP393Client(t *testing.T) {
	mine := push(1, 2)
	mine.From = client
	breaks(t, api.RuleClient, mine)
	breaks(t, api.RuleClient, get(1, 0), cut(mine, 6)[0])
	mine.Body = append(number(2), 128)
	breaks(t, api.RuleClient, mine)
	mine.Body = append(number(2), make([]byte, 2000)...)
	breaks(t, api.RuleClient, mine)
}

func TestP393Parts(t *testing.T) {
	passes(t, cut(get(2, 0), 3)[0]) // it is asked when the block ends
	breaks(t, api.RuleIdle, cut(get(2, 0), 3))
	passes(t, raw(client, api.Headers, 0, 1, 128))
	breaks(t, api.RuleTable, raw(client, api.Headers, 0, 1, 128), goOn(client, 1, whole))
	passes(t, raw(client, api.Headers, whole, 2, make([]byte, 1001)...)) // there is no room for it
	passes(t, raw(client, api.Headers, 0, 2, make([]byte, 1000)...), goOn(client, 2, whole, 0))
	passes(t, cut(push(1, 2), 5)[0])
	breaks(t, api.RulePromise, cut(push(1, 2), 5))
	breaks(t, api.RuleEnded, get(1, end), cut(get(1, end), 4))
}

func TestP393Table(t *testing.T) {
	breaks(t, api.RuleTable, raw(client, api.Headers, whole, 1, 128))
	breaks(t, api.RuleTable, raw(client, api.Headers, whole, 1, 190))
	breaks(t, api.RuleTable, raw(client, api.Headers, whole, 1, append(get(1, 0).Body, 63, 0)...)) // a size behind a field
	breaks(t, api.RuleTable, away(server, 0), raw(client, api.Headers, whole, 1, 128))
	breaks(t, api.RuleTable, raw(client, api.Headers, whole, 2, 128))
	breaks(t, api.RuleUpdate, sized(1, 4097))
	passes(t, sized(1, 4096))
	passes(t, sized(1, 0, 4096, 7))
	breaks(t, api.RuleUpdate, sized(1, 0, 4097, 7))
	breaks(t, api.RuleUpdate, away(server, 0), sized(1, 4097))
	breaks(t, api.RuleUpdate, get(1, end), sized(1, 4097))
	passes(t, sets(server, api.SetTable, 6000), sized(1, 6000))
	breaks(t, api.RuleUpdate, sets(server, api.SetTable, 6000), sized(1, 6001))
	breaks(t, api.RuleUpdate, sets(server, api.SetTable, 100), sized(1, 101))
	for table, want := range map[int]int{99: api.RuleUpdate, 100: 0, 101: 0, -1: api.RuleUpdate, 1 << 32: 0} {
		k := made(t, conf(), both()...)
		look(t, k, sized(1, 100))
		v := newest(k, get(1, 0))
		v.Table = table
		if _, rule := k.Ask(v, true); rule != want {
			t.Errorf("Table %d: %d, want %d", table, rule, want)
		}
	}
}

func TestP393Missing(t *testing.T) {
	small := list(sets(server, api.SetTable, 100), many(2, ack(client)))
	breaks(t, api.RuleMissing, small, get(1, end))
	breaks(t, api.RuleMissing, small, sized(1, 101))
	breaks(t, api.RuleMissing, small, sized(1, 101, 100))
	passes(t, small, sized(1, 100))
	passes(t, small, sized(1, 0, 100))
	breaks(t, api.RuleUpdate, small, sized(1, 100, 101))
	passes(t, small, sized(1, 100), get(3, end))
	breaks(t, api.RuleMissing, small, cut(get(1, end), 4))
	passes(t, small, cut(sized(1, 50), 0))
	breaks(t, api.RuleTable, small, raw(client, api.Headers, whole, 1, 128))
	breaks(t, api.RuleMissing, small, raw(client, api.Headers, whole, 1, bytes([]int{5000}, nil)...))
	breaks(t, api.RuleMissing, small, away(server, 0), get(1, end))
	// Of what is not acknowledged, and what isn't below the table's max, there is no bound.
	passes(t, sets(server, api.SetTable, 100), ack(client), get(1, end))
	passes(t, sets(server, api.SetTable, 4096), many(2, ack(client)), get(1, end))
	passes(t, sets(server, api.SetTable, 100), sized(1, 100), many(2, ack(client)), get(3, end))
	passes(t, sets(client, api.SetTable, 100), many(2, ack(server)), get(1, end))
	breaks(t, api.RuleMissing, sets(client, api.SetTable, 100), many(2, ack(server)), get(1, end), status(1, end))
	// A table that was small may grow again behind the size that is least.
	back := list(sets(server, api.SetTable, 100), sets(server, api.SetTable, 5000), many(3, ack(client)))
	breaks(t, api.RuleMissing, back, sized(1, 5000))
	breaks(t, api.RuleMissing, back, get(1, end))
	passes(t, back, sized(1, 100, 5000))
	breaks(t, api.RuleUpdate, back, sized(1, 100, 5001))
	less := list(sets(server, api.SetTable, 100), sets(server, api.SetTable, 50), many(3, ack(client)))
	breaks(t, api.RuleMissing, less, sized(1, 51))
	passes(t, less, sized(1, 50))
	// The settings up to the one that is acknowledged count, not those behind it.
	passes(t, sets(server), sets(server, api.SetTable, 100), many(2, ack(client)), get(1, end))
	breaks(t, api.RuleMissing, sets(server, api.SetTable, 100), sets(server, api.SetTable, 5000), many(2, ack(client)), sized(1, 101))
}

func TestP393Headers(t *testing.T) {
	passes(t, get(1, 0))
	breaks(t, api.RuleIdle, get(2, 0))
	breaks(t, api.RuleIdle, status(1, 0))
	breaks(t, api.RuleNumber, get(3, 0), get(1, 0))
	breaks(t, api.RuleEnded, get(1, end), get(1, end))
	breaks(t, api.RuleClosed, get(1, end), status(1, end), get(1, 0))
	breaks(t, api.RuleReserved, get(1, 0), push(1, 2), headers(client, 2, end, "a=b"))
	ignores(t, get(1, 0), reset(server, 1), headers(client, 1, end, "A=b"))
	ignores(t, away(server, 1), headers(client, 3, 0, "A=b"))
	ignores(t, get(3, 0), away(server, 0), get(1, 0))
	breaks(t, api.RuleNumber, get(3, 0), away(server, 1), get(1, 0))
	passes(t, away(server, 3), get(3, 0))
	ignores(t, get(1, 0), push(1, 4), away(client, 2), status(4, end))
	breaks(t, api.RuleIdle, get(1, 0), away(client, 1), status(3, end)) // the client's own is not beyond for the server
	// What is said.
	breaks(t, api.RuleField, headers(client, 1, 0, ":method=GET", ":scheme=http", ":path=/", "A=b"))
	breaks(t, api.RuleBarred, headers(client, 1, 0, ":method=GET", ":scheme=http", ":path=/", "connection=close"))
	breaks(t, api.RulePseudo, headers(client, 1, 0, ":method=GET", ":scheme=http"))
	breaks(t, api.RuleLength, headers(client, 1, end, ":method=GET", ":scheme=http", ":path=/", "content-length=5"))
	breaks(t, api.RuleTrailer, get(1, 0), headers(client, 1, 0, "a=b"))
	passes(t, get(1, 0), headers(client, 1, end, "a=b"))
	breaks(t, api.RulePseudo, get(1, 0), get(1, end))
	breaks(t, api.RulePseudo, get(1, 0), headers(server, 1, 0, "a=b"))
	passes(t, get(1, 0), headers(server, 1, 0, ":status=103"), headers(server, 1, 0, ":status=103"), status(1, end))
	breaks(t, api.RuleBody, get(1, 0), headers(server, 1, end, ":status=103"))
	// The server answers the method that was asked.
	for method, rule := range map[string]int{"GET": 0, "HEAD": api.RuleBody} {
		ask := headers(client, 1, end, ":method="+method, ":scheme=http", ":path=/")
		answer := life.Pass
		if rule != 0 {
			answer = life.Break
		}
		comes(t, answer, rule, ask, status(1, 0), data(server, 1, 1, 0))
		comes(t, answer, rule, get(1, 0), push(1, 2, ":method="+method, ":scheme=http", ":path=/"), status(2, 0), data(server, 2, 1, 0))
	}
}

func TestP393Many(t *testing.T) {
	two := sets(server, api.SetStreams, 2)
	passes(t, two, get(1, 0), get(3, 0))
	breaks(t, api.RuleMany, two, get(1, 0), get(3, end), get(5, 0))
	passes(t, two, get(1, 0), get(3, 0), reset(client, 1), get(5, 0))
	passes(t, two, get(1, end), get(3, 0), status(1, end), get(5, 0))
	passes(t, two, get(1, 0), get(3, 0), headers(client, 3, end, "a=b"))
	breaks(t, api.RuleMany, sets(server, api.SetStreams, 0), get(1, 0))
	breaks(t, api.RuleMany, sets(server, api.SetStreams, 0), headers(client, 1, 0, "A=b"))
	breaks(t, api.RuleUpdate, sets(server, api.SetStreams, 0), sized(1, 5000))
	ignores(t, sets(server, api.SetStreams, 0), away(server, 0), get(1, 0))
	// Of promised streams those count that are open, when another one becomes so.
	one := sets(client, api.SetStreams, 1)
	passes(t, one, get(1, 0), push(1, 2), push(1, 4), status(2, 0))
	breaks(t, api.RuleMany, one, get(1, 0), push(1, 2), push(1, 4), status(2, 0), status(4, 0))
	passes(t, one, get(1, 0), push(1, 2), push(1, 4), status(2, end), status(4, 0))
	passes(t, one, get(1, 0), push(1, 2), status(2, 0), get(3, 0), headers(server, 2, end, "a=b"))
	passes(t, one, get(1, 0), get(3, 0), push(1, 2), status(2, 0)) // the client's do not count
	passes(t, two, get(1, 0), push(1, 2), push(1, 4), status(2, 0), status(4, 0), get(3, 0))
	for n, want := range map[int]int{0: api.RuleMany, -1: api.RuleMany, 1: api.RuleMany, 2: 0, api.Unlimited: 0} {
		k := made(t, conf(), list(both(), get(1, 0))...)
		look(t, k, get(3, 0))
		v := newest(k, get(1, 0))
		v.Streams = n
		if _, rule := k.Ask(v, true); rule != want {
			t.Errorf("Streams %d: %d, want %d", n, rule, want)
		}
	}
}

func TestP393Promise(t *testing.T) {
	passes(t, get(1, 0), push(1, 2))
	passes(t, get(1, end), status(1, 0), push(1, top-1))
	breaks(t, api.RulePromise, push(1, 2))
	breaks(t, api.RulePromise, get(1, 0), push(1, 2), push(2, 4))
	breaks(t, api.RulePromise, get(1, 0), status(1, end), push(1, 2))
	breaks(t, api.RulePromise, get(1, 0), reset(server, 1), push(1, 2))
	passes(t, get(1, 0), reset(client, 1), push(1, 2))
	breaks(t, api.RulePush, sets(client, api.SetPush, 0), get(1, 0), push(1, 2))
	breaks(t, api.RulePush, sets(client, api.SetPush, 0), get(1, 0), push(1, 3))
	breaks(t, api.RulePromise, sets(client, api.SetPush, 0), push(1, 2))
	for _, id := range []int{0, 1, 3, top, 2, 4, 6} {
		breaks(t, api.RulePromised, get(1, 0), push(1, 6), push(1, id))
	}
	passes(t, get(1, 0), push(1, 6), push(1, 8))
	breaks(t, api.RulePromised, get(1, 0), away(client, 0), push(1, 3))
	ignores(t, get(1, 0), away(client, 0), push(1, 2, "A=b"))
	ignores(t, get(1, 0), away(client, 2), push(1, 4))
	passes(t, get(1, 0), away(client, 4), push(1, 4))
	passes(t, get(1, 0), away(server, 0), push(1, 4))
	breaks(t, api.RuleSafe, get(1, 0), push(1, 2, ":method=POST", ":scheme=http", ":path=/"))
	passes(t, get(1, 0), push(1, 2, ":method=HEAD", ":scheme=http", ":path=/"))
	breaks(t, api.RulePseudo, get(1, 0), push(1, 2, ":method=GET"))
	breaks(t, api.RuleField, get(1, 0), push(1, 2, "A=b"))
	breaks(t, api.RuleTable, get(1, 0), raw(server, api.Promise, whole, 1, 0, 0, 0, 3, 128))
	for n, want := range map[int]int{0: api.RulePush, 1: 0, 2: 0, -1: 0} {
		k := made(t, conf(), list(both(), get(1, 0))...)
		look(t, k, push(1, 2))
		v := newest(k, push(1, 2))
		v.Push = n
		if _, rule := k.Ask(v, true); rule != want {
			t.Errorf("Push %d: %d, want %d", n, rule, want)
		}
	}
}

func TestP393Lost(t *testing.T) {
	closed := list(both(), get(1, end), status(1, end), get(3, 0), reset(client, 3), get(5, 0), reset(server, 5), get(7, 0), push(7, 2), reset(client, 7))
	for i, x := range []struct {
		r            api.Raw
		answer, rule int // if the stream is known
		lost         int // the rule, if it is not; 0: it is the same
	}{
		{data(client, 1, 1, 0), life.Break, api.RuleClosed, api.RuleForgotten},
		{get(1, end), life.Break, api.RuleClosed, api.RuleForgotten},
		{reset(client, 1), life.Ignore, 0, api.RuleForgotten},
		{grow(server, 1, 1), life.Ignore, 0, api.RuleForgotten},
		{data(client, 3, 1, 0), life.Break, api.RuleReset, api.RuleForgotten},
		{status(3, 0), life.Ignore, 0, api.RuleForgotten},
		{data(client, 5, 1, 0), life.Ignore, 0, api.RuleForgotten},
		{push(7, 4), life.Pass, 0, api.RulePromise},
		{push(5, 4), life.Break, api.RulePromise, api.RulePromise},
		{raw(client, api.Priority, 0, 1, 0, 0, 0, 0, 0), life.Ignore, 0, 0},
		{raw(client, 77, 0, 1), life.Ignore, 0, 0},
		{cut(get(1, 0), 0)[0], life.Pass, 0, 0},
		{grow(client, 2, 1), life.Pass, 0, 0},
	} {
		t.Run(strconv.Itoa(i), func(t *testing.T) {
			k := made(t, conf(), closed...)
			look(t, k, x.r)
			says(t, k, newest(k, x.r), true, x.answer, x.rule)
			if x.lost == 0 {
				says(t, k, newest(k, x.r), false, x.answer, x.rule)
			} else {
				says(t, k, newest(k, x.r), false, life.Break, x.lost)
			}
		})
	}
}

func TestP393Nothing(t *testing.T) {
	k := made(t, conf())
	says(t, k, api.Values{}, true, 0, 0)
	done(t, k, 0, sets(server))
	says(t, k, api.Values{Frame: 5}, false, 0, 0)
}

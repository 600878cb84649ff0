package core_test

import (
	"math"
	"slices"
	"testing"

	"stickler/api"
	"stickler/core"
	"stickler/life"
)

// full says that there is no room for the last frame, and that it is over then.
func full(t *testing.T, c api.Config, answer int, l ...any) {
	t.Helper()
	all := list(l...)
	n := len(all) - 1
	k := made(t, c, append(both(), all[:n]...)...)
	asked(t, k, all[n], true, answer, 0)
	if fields, e := k.Do(answer); e != api.ErrFull || len(fields) != 0 {
		t.Fatal(fields, e)
	}
	if a, rule := k.Ask(api.Values{}, true); a != 0 || rule != 0 {
		t.Error("it is looked at still:", a, rule)
	}
	if id, is := k.Late(); id != 0 || is {
		t.Error("Late:", id)
	}
	if _, e := k.Do(answer); e != api.ErrNone {
		t.Error("Do again:", e)
	}
	for _, r := range []api.Raw{ping(server, 1), sets(client), ping(7, 1)} {
		if e := k.Look(r); e != api.ErrOver {
			t.Error("Look:", e)
		}
	}
}

// fits says that there is room for all frames.
func fits(t *testing.T, c api.Config, l ...any) {
	t.Helper()
	made(t, c, append(both(), list(l...)...)...)
}

func TestP394None(t *testing.T) {
	k := made(t, conf(), both()...)
	none := func(l ...int) {
		t.Helper()
		for _, answer := range l {
			if fields, e := k.Do(answer); e != api.ErrNone || len(fields) != 0 {
				t.Errorf("Do(%d): %v, %v", answer, fields, e)
			}
		}
	}
	every := []int{math.MinInt, -1, 0, life.Pass, life.Ignore, life.Break, 4, math.MaxInt}
	none(every...)
	look(t, k, data(client, 1, 1, 0))
	none(every...)
	says(t, k, newest(k, ping(client, 1)), true, life.Break, api.RuleIdle)
	none(every...)

	k = made(t, conf(), both()...)
	look(t, k, ping(client, 1))
	none(every...) // nothing was asked
	says(t, k, api.Values{}, true, life.Break, api.RuleSize)
	none(every...)
	says(t, k, newest(k, ping(client, 1)), true, life.Pass, 0)
	none(math.MinInt, -1, 0, life.Ignore, life.Break, 4, math.MaxInt)
	says(t, k, api.Values{}, true, life.Break, api.RuleSize)
	if _, e := k.Do(life.Pass); e != api.OK { // it was answered once
		t.Error(e)
	}
	none(every...)
	look(t, k, pong(server, 2))
	none(every...) // what was asked of the one ahead counts no more
	says(t, k, newest(k, pong(server, 1)), true, life.Ignore, 0)
	none(life.Pass)
	if _, e := k.Do(life.Ignore); e != api.OK {
		t.Error(e)
	}
	asked(t, k, pong(server, 1), true, life.Pass, 0)
}

func TestP394Fields(t *testing.T) {
	k := made(t, conf(), both()...)
	want := func(r api.Raw, l ...string) {
		t.Helper()
		if got := done(t, k, 0, r); !slices.Equal(got, fields(l...)) {
			t.Errorf("%+v: %v", r, got)
		}
	}
	want(get(1, 0), ":method=GET", ":scheme=http", ":path=/")
	want(data(client, 1, 5, 0))
	parts := cut(headers(client, 1, end, "a=b", "c=d"), 3)
	want(parts[0])
	want(parts[1], "a=b", "c=d")
	want(push(1, 2), ":method=GET", ":scheme=http", ":path=/")
	want(reset(server, 1))
	want(headers(client, 1, end, "A=B"), "A=B") // ignored
	want(ping(client, 1))
	k = made(t, conf(), append(both(), get(1, 0))...)
	secret := raw(server, api.Headers, whole, 1, 136, 16, 1, 'a', 1, 'b')
	if got := done(t, k, 0, secret); len(got) != 2 || got[1] != (api.Field{Name: "a", Value: "b", Never: true}) {
		t.Error(got)
	}
}

func TestP394Block(t *testing.T) {
	c := conf()
	c.Block = len(get(1, 0).Body)
	fits(t, c, get(1, 0), cut(get(3, 0), 5), cut(get(5, 0), 0))
	c.Block--
	full(t, c, life.Pass, get(1, 0))
	full(t, c, life.Pass, cut(get(1, 0), 5))
	full(t, c, life.Pass, get(2, 0)) // whatever it would break
	full(t, c, life.Pass, away(server, 0), get(1, 0))
	c.Block = 0
	fits(t, c, raw(client, api.Headers, 0, 1), goOn(client, 1, 0), goOn(client, 1, 0))
	full(t, c, life.Pass, raw(client, api.Headers, 0, 1), goOn(client, 1, whole, 1))
}

func TestP394Table(t *testing.T) {
	c := conf()
	more := sets(server, api.SetTable, 1<<32-1)
	fits(t, c, more, sized(1, 8000))
	full(t, c, life.Pass, more, sized(1, 8001))
	full(t, c, life.Pass, more, sized(1, 1<<31-1, 0))
	full(t, c, life.Pass, more, sized(1, 0, 8001, 0))
	full(t, c, life.Ignore, more, away(server, 0), sized(1, 8001))
	full(t, c, life.Ignore, more, sized(1), status(1, end), get(3, 0), reset(server, 3), raw(client, api.Headers, whole, 3, bytes([]int{8001}, nil)...))
	c.Table = 4096
	fits(t, c, more, sized(1, 4096))
	full(t, c, life.Pass, more, sized(1, 4097))
	// The table was read all the same.
	k := made(t, c, append(both(), more)...)
	asked(t, k, sized(1, 4097), true, life.Pass, 0)
	k.Do(life.Pass)
	if n, max := k.Table(client); n != 0 || max != 4097 {
		t.Error(n, max)
	}
}

func TestP394Queue(t *testing.T) {
	c := conf()
	fits(t, c, sets(server), sets(server))
	full(t, c, life.Pass, sets(server), sets(server), sets(server))
	full(t, c, life.Pass, sets(server), sets(server), sets(client), ack(server), sets(server))
	fits(t, c, many(2, sets(server)), ack(client), sets(server), many(3, ack(client)), many(3, sets(server)))
	full(t, c, life.Pass, many(2, sets(server)), ack(client), many(2, sets(server)))
	c.Queue = 1
	fits(t, c, ack(client), sets(server), ack(client), ack(server), sets(client))
	full(t, c, life.Pass, sets(server))
	k := made(t, c, both()...)
	asked(t, k, sets(server, api.SetTable, 5), true, life.Pass, 0)
	k.Do(life.Pass)
	if k.Sent(server).Sent() != 1 || k.Sent(server).Newest().Table != 4096 {
		t.Error("what has no room is sent")
	}
}

func TestP394Pings(t *testing.T) {
	c := conf()
	fits(t, c, ping(client, 1), ping(client, 2), ping(server, 1), ping(server, 1))
	full(t, c, life.Pass, ping(client, 1), ping(client, 2), ping(client, 3))
	full(t, c, life.Pass, ping(client, 1), ping(client, 1), ping(client, 1))
	fits(t, c, ping(client, 1), ping(client, 1), pong(server, 1), ping(client, 3))
	full(t, c, life.Pass, ping(client, 1), ping(client, 1), pong(server, 2), ping(client, 3))
	c.Pings = 0
	full(t, c, life.Pass, ping(server, 1))
	fits(t, c, pong(server, 1))
}

func TestP394Streams(t *testing.T) {
	c := conf()
	c.Streams = 2
	fits(t, c, get(1, 0), push(1, 2), reset(client, 1), reset(client, 2), grow(server, 0, 1))
	full(t, c, life.Pass, get(1, 0), push(1, 2), get(3, 0))
	full(t, c, life.Pass, get(1, 0), get(3, 0), push(1, 2))
	full(t, c, life.Pass, get(1, end), get(3, end), status(1, end), get(5, 0)) // closed ones count
	fits(t, c, get(1, 0), get(3, 0), away(server, 3), get(5, 0), away(client, 0), push(1, 2))
	c.Streams = 1
	fits(t, c, get(1, 0), headers(client, 1, end, "a=b"), status(1, end))
}

func TestP394Begun(t *testing.T) {
	// A Preface is no frame.
	k := made(t, conf(), first())
	asked(t, k, ping(client, 1), true, life.Break, api.RuleFirst)
	k = made(t, conf(), first(), sets(client))
	asked(t, k, ping(client, 1), true, life.Pass, 0)
	k.Do(life.Pass)
	asked(t, k, ping(server, 1), true, life.Break, api.RuleFirst)
}

func TestP394Settings(t *testing.T) {
	k := made(t, conf(), append(both(), sets(server, api.SetWindow, 5, api.SetFrame, 20000), sets(server, api.SetWindow, 7), ack(client))...)
	q := k.Sent(server)
	if q.Sent() != 3 || q.Acked() != 1 || q.Newest().Window != 7 || q.Newest().Frame != 20000 || len(q.All()) != 3 {
		t.Error(q.All())
	}
	if k.Sent(client).Sent() != 1 || k.Sent(client).Acked() != 0 {
		t.Error("the client's")
	}
}

func TestP394Bound(t *testing.T) {
	small := list(sets(server, api.SetTable, 100), many(2, ack(client)))
	// A block that ends lets it go, also one that is ignored.
	passes(t, small, sized(1, 100), get(3, 0))
	ignores(t, small, away(server, 0), sized(1, 100), get(3, 0))
	breaks(t, api.RuleMissing, small, cut(sized(1, 100), 3), sets(server, api.SetTable, 50), ack(client), get(3, 0))
	passes(t, small, cut(sized(1, 100), 3)[0], sets(server), goOn(client, 1, 0))
	// A greater one that is acknowledged later leaves the lesser one.
	breaks(t, api.RuleMissing, small, sets(server, api.SetTable, 200), ack(client), sized(1, 101))
	passes(t, small, sets(server, api.SetTable, 200), ack(client), sized(1, 100))
	breaks(t, api.RuleMissing, small, sets(server, api.SetTable, 50), ack(client), sized(1, 51))
	// A bound of 0 is one, too.
	none := list(sets(server, api.SetTable, 0), many(2, ack(client)))
	breaks(t, api.RuleMissing, none, sized(1, 1))
	breaks(t, api.RuleMissing, none, get(1, 0))
	passes(t, none, sized(1, 0))
	breaks(t, api.RuleMissing, none, sets(server, api.SetTable, 50), ack(client), sized(1, 50))
	// It is that of the table as it was when it was acknowledged.
	passes(t, sets(server, api.SetTable, 5000), many(2, ack(client)), sized(1, 5000), sets(server, api.SetTable, 5000), ack(client), get(3, 0))
	breaks(t, api.RuleMissing, sets(server, api.SetTable, 5000), many(2, ack(client)), sized(1, 5000), sets(server, api.SetTable, 4999), ack(client), get(3, 0))
	// Both sides have their own.
	passes(t, small, sets(client, api.SetTable, 50), many(2, ack(server)), sized(1, 100))
	breaks(t, api.RuleMissing, small, sets(client, api.SetTable, 50), many(2, ack(server)), sized(1, 100), raw(server, api.Headers, whole, 1, bytes([]int{51}, nil)...))
}

// Whatever is known of what the other side keeps to, the settings that are acknowledged tell the bound.
func TestP394BoundOf(t *testing.T) {
	l := append(both(), sets(server, api.SetTable, 100), sets(server, api.SetTable, 50), sets(server, api.SetTable, 5000))
	k := made(t, conf(), l[:4]...)
	done(t, k, 0, ack(client))
	for _, r := range l[4:] {
		done(t, k, 0, r)
	}
	if !k.Sent(server).Narrow([]bool{false, false, true}) || k.Sent(server).Least() != 3 {
		t.Fatal(k.Sent(server).Least())
	}
	done(t, k, 0, ack(client)) // 100
	asked(t, k, sized(1, 101), true, life.Break, api.RuleMissing)
	k = made(t, conf(), l[:4]...)
	done(t, k, 0, ack(client))
	for _, r := range l[4:] {
		done(t, k, 0, r)
	}
	k.Sent(server).Narrow([]bool{false, false, true})
	done(t, k, 0, ack(client))
	done(t, k, 0, ack(client)) // 50
	asked(t, k, sized(1, 51, 50), true, life.Break, api.RuleMissing)
}

func TestP394Windows(t *testing.T) {
	passes(t, get(1, 0), status(1, 0), grow(client, 0, 1000), grow(client, 1, 1000), many(4, data(server, 1, 16384, 0)), data(server, 1, 999, 0))
	breaks(t, api.RuleConn, get(1, 0), status(1, 0), grow(client, 0, 1000), grow(client, 1, 1000), many(4, data(server, 1, 16384, 0)), data(server, 1, 1000, 0))
	// Who sends the update gets nothing by it.
	breaks(t, api.RuleConn, get(1, 0), grow(client, 0, 1000), many(3, data(client, 1, 16384, 0)), data(client, 1, 16384, 0))
	breaks(t, api.RuleStream, get(1, 0), grow(server, 0, 1), grow(client, 1, 1000), many(3, data(client, 1, 16384, 0)), data(client, 1, 16384, 0))
	// Data that are ignored are taken of the connection's window alone, and their stream stays as it is.
	ignored := list(get(1, 0), get(3, 0), away(server, 1), many(3, data(client, 3, 16384, end)))
	breaks(t, api.RuleConn, ignored, data(client, 1, 16384, 0))
	passes(t, ignored, data(client, 1, 16383, 0))
	passes(t, ignored, status(3, end))
	// Of updates that are ignored nothing is given.
	breaks(t, api.RuleStream, get(1, 0), sets(server, api.SetWindow, 0), away(client, 0), grow(server, 0, 5), data(client, 1, 1, 0))
	passes(t, get(1, 0), push(1, 2), grow(client, 2, top-65535), status(2, 0), data(server, 2, 9, 0), grow(client, 2, 9))
	breaks(t, api.RuleWindow, get(1, 0), push(1, 2), grow(client, 2, top-65535), status(2, 0), data(server, 2, 9, 0), grow(client, 2, 10))
}

func TestP394Padded(t *testing.T) {
	padded := raw(client, api.Data, api.FlagPadded, 1, 2, 7, 0, 0) // four bytes of the windows, one of the message
	few := list(get(1, 0), sets(server, api.SetWindow, 10), padded)
	passes(t, few, data(client, 1, 6, 0))
	breaks(t, api.RuleStream, few, data(client, 1, 7, 0))
	all := list(get(1, 0), grow(server, 1, 10), many(3, data(client, 1, 16384, 0)), padded)
	passes(t, all, data(client, 1, 16379, 0))
	breaks(t, api.RuleConn, all, data(client, 1, 16380, 0))
	told := list(headers(client, 1, 0, ":method=POST", ":scheme=http", ":path=/", "content-length=5"), padded)
	passes(t, told, data(client, 1, 4, end))
	passes(t, told, padded, padded, data(client, 1, 2, end))
	breaks(t, api.RuleLength, told, data(client, 1, 5, 0))
	breaks(t, api.RuleLength, told, data(client, 1, 3, end))
	breaks(t, api.RuleLength, told, padded, headers(client, 1, end, "a=b"))
	passes(t, told, data(client, 1, 4, 0), headers(client, 1, end, "a=b"))
}

func TestP394Streamed(t *testing.T) {
	state := func(want int, rule int, r api.Raw, l ...any) {
		t.Helper()
		comes(t, want, rule, append(l, r)...)
	}
	// Begun and ended.
	state(life.Pass, 0, data(client, 1, 1, 0), get(1, 0))
	state(life.Break, api.RuleEnded, data(client, 1, 1, 0), get(1, 0), data(client, 1, 0, end))
	state(life.Break, api.RuleEnded, data(client, 1, 1, 0), get(1, 0), headers(client, 1, end, "a=b"))
	state(life.Break, api.RuleClosed, data(client, 1, 1, 0), get(1, end), status(1, 0), data(server, 1, 5, end))
	state(life.Break, api.RuleClosed, data(client, 1, 1, 0), get(1, 0), status(1, end), data(client, 1, 5, end))
	state(life.Break, api.RuleClosed, data(server, 1, 1, 0), get(1, 0), status(1, end), cut(headers(client, 1, end, "a=b"), 2))
	state(life.Break, api.RuleEnded, data(server, 1, 1, 0), get(1, 0), status(1, end))
	// Reset by who sends it.
	state(life.Break, api.RuleReset, data(client, 1, 1, 0), get(1, 0), reset(client, 1))
	state(life.Ignore, 0, status(1, 0), get(1, 0), reset(client, 1))
	state(life.Break, api.RuleReset, status(2, 0), get(1, 0), push(1, 2), reset(server, 2))
	state(life.Ignore, 0, status(2, 0), get(1, 0), push(1, 2), reset(client, 2))
	// Promised, and opened by the server.
	state(life.Pass, 0, status(2, 0), get(1, 0), push(1, 2))
	state(life.Break, api.RuleEnded, headers(client, 2, end, "a=b"), get(1, 0), push(1, 2), status(2, 0))
	state(life.Pass, 0, data(server, 2, 1, 0), get(1, 0), push(1, 2), status(2, 0))
	state(life.Break, api.RuleClosed, data(server, 2, 1, 0), get(1, 0), push(1, 2), status(2, end))
	state(life.Break, api.RuleClosed, data(server, 2, 1, 0), get(1, 0), push(1, 2), status(2, 0), data(server, 2, 0, end))
	state(life.Pass, 0, headers(server, 2, end, "a=b"), get(1, 0), push(1, 2), status(2, 0))
	// Of what is ignored nothing comes.
	state(life.Break, api.RuleIdle, status(3, 0), away(server, 1), get(3, 0))
	state(life.Pass, 0, get(1, 0), away(server, 1), get(3, 0))
	state(life.Break, api.RulePromise, push(3, 4), get(1, 0), away(server, 1), get(3, 0))
	state(life.Break, api.RuleIdle, grow(client, 4, 1), get(1, 0), away(client, 2), push(1, 4))
	state(life.Pass, 0, status(3, 0), get(3, 0), away(server, 1), reset(client, 3))
	state(life.Pass, 0, pong(client, 1), ping(server, 1), pong(client, 2))
}

func TestP394Skipped(t *testing.T) {
	breaks(t, api.RuleForgotten, get(3, 0), status(1, 0))
	breaks(t, api.RuleNumber, get(1, 0), push(1, 6), status(4, 0))
	breaks(t, api.RuleForgotten, get(1, 0), push(1, 6), grow(client, 4, 1))
	breaks(t, api.RuleIdle, get(1, 0), push(1, 6), status(8, 0))
	passes(t, get(1, 0), push(1, 6), get(3, 0))
}

func TestP394Memories(t *testing.T) {
	lens := func(want int, l ...any) {
		t.Helper()
		k := made(t, conf(), append(both(), list(l...)...)...)
		for side := range 2 {
			if n := k.Memory(side).Len(); n != want {
				t.Errorf("of %d: %d, want %d", side, n, want)
			}
			for id := 1; id <= want; id += 2 {
				if !k.Memory(side).Can(id) {
					t.Errorf("%d does not know %d", side, id)
				}
			}
		}
	}
	lens(0, get(1, 0))
	lens(0, get(1, end))
	lens(1, get(1, end), status(1, end))
	lens(1, get(1, end), status(1, 0), data(server, 1, 1, end))
	lens(1, get(1, 0), status(1, end), data(client, 1, 1, end))
	lens(1, get(1, 0), reset(client, 1))
	lens(1, get(1, 0), reset(server, 1), reset(client, 1))
	lens(1, get(1, 0), reset(server, 1), data(client, 1, 1, end))
	lens(2, get(1, 0), push(1, 2), reset(client, 2), reset(server, 1))
	lens(2, get(1, 0), push(1, 2), status(2, end), reset(server, 1))
	lens(0, away(server, 0), get(1, end), reset(client, 1))
	k := made(t, conf(), append(both(), list(get(1, 0), get(3, 0), get(5, 0), reset(client, 1), reset(server, 3), reset(client, 5))...)...)
	m := k.Memory(client)
	if !m.Keep(1) || !m.Keep(3) || m.Can(5) || !k.Memory(server).Can(5) {
		t.Error("each knows of two of them")
	}
}

func TestP395Nobody(t *testing.T) {
	var none *core.Core
	for _, r := range []api.Raw{first(), sets(server), ping(9, 1)} {
		if none.Look(r) != api.ErrNil || new(core.Core).Look(r) != api.ErrOver {
			t.Error("Look")
		}
	}
	for _, k := range []*core.Core{none, new(core.Core)} {
		want := api.ErrNil
		if k != nil {
			want = api.ErrNone
		}
		if id, is := k.Late(); id != 0 || is {
			t.Error("Late:", id)
		}
		says(t, k, api.Values{Frame: 5}, true, 0, 0)
		for _, answer := range []int{life.Pass, life.Ignore, 0, 9} {
			if l, e := k.Do(answer); e != want || len(l) != 0 {
				t.Error("Do:", l, e)
			}
		}
		for _, side := range []int{0, 1, 2, -1} {
			if n, max := k.Table(side); n != 0 || max != 0 || k.Sent(side) != nil || k.Memory(side) != nil {
				t.Error("of", side)
			}
		}
	}
}

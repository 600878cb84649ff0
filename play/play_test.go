package play_test

import (
	"bytes"
	"math"
	"slices"
	"testing"

	"stickler/api"
	"stickler/driver"
	"stickler/inject"
	"stickler/match"
	"stickler/peer"
	"stickler/play"
	"stickler/spec"
)

const (
	client = api.Client
	server = api.Server
)

func conf() api.Config {
	return api.Config{Grace: 1, Streams: 30, Block: 10000, Queue: 9, Pings: 9, Table: 8000}
}

func same(a, b []api.Raw) bool {
	return slices.EqualFunc(a, b, func(x, y api.Raw) bool {
		return x.From == y.From && x.Type == y.Type && x.Flags == y.Flags && x.Stream == y.Stream && x.Res == y.Res && bytes.Equal(x.Body, y.Body)
	})
}

func sameResult(a, b play.Result) bool {
	return a.Verdict == b.Verdict && same(a.Frames, b.Frames) && slices.Equal(a.Skipped, b.Skipped) && a.At == b.At && slices.Equal(a.Faults, b.Faults) && a.Got == b.Got && a.Told == b.Told
}

// of is a scenario of a side with steps, that ends with a kind of what is wrong.
func of(side int, name string, stream int, l ...spec.Step) spec.Scenario {
	kind, _ := inject.ByName(name)
	s := spec.New(side).Ending(spec.Wrong{Kind: kind, Stream: stream})
	for _, x := range l {
		s = s.With(x)
	}
	return s
}

func wait(n int) spec.Step { return spec.Step{Kind: spec.Wait, N: n} }

func get(stream int, end bool) spec.Step {
	return spec.Step{Kind: spec.Headers, Stream: stream, End: end, Fields: []api.Field{{Name: ":method", Value: "GET"}, {Name: ":scheme", Value: "http"}, {Name: ":path", Value: "/"}}}
}

func run(t *testing.T, c api.Config, s spec.Scenario, choices ...int) play.Result {
	t.Helper()
	r, e := play.Run(c, s, choices)
	if e != api.OK {
		t.Fatal(s, e)
	}
	return r
}

// is says what comes of a scenario.
func is(t *testing.T, r, want play.Result) {
	t.Helper()
	if !sameResult(r, want) {
		t.Errorf("%+v\nwant %+v", r, want)
	}
}

func all(l ...[]api.Raw) []api.Raw { return slices.Concat(l...) }

func both() []api.Raw { return all(driver.Open(client), driver.Open(server)) }

// wrongs are the frames of what a scenario does wrong.
func wrongs(s spec.Scenario) []api.Raw {
	l, _ := inject.Frames(s.Wrong, s.Side)
	return l
}

func ack(from int) []api.Raw {
	return []api.Raw{{From: from, Type: api.Settings, Flags: api.FlagAck}}
}

func ping(from, flags int, b byte) []api.Raw {
	return []api.Raw{{From: from, Type: api.Ping, Flags: flags, Body: bytes.Repeat([]byte{b}, 8)}}
}

func conn(code int) api.Fault { return api.Fault{Scope: api.OfConn, Code: code} }

func TestP50Args(t *testing.T) {
	good := of(client, "ping7", 1)
	for _, c := range []api.Config{{}, {Grace: 65, Streams: 1, Queue: 1, Table: 4096}, {Streams: 1, Queue: 1, Table: 4095}, {Grace: math.MinInt, Streams: math.MaxInt}} {
		if r, e := play.Run(c, good, nil); e != api.ErrArg || !sameResult(r, play.Result{}) {
			t.Error(c, r, e)
		}
	}
	for _, s := range []spec.Scenario{{}, good.Ending(spec.Wrong{}), good.Ending(spec.Wrong{Kind: 27, Stream: 1}), {Side: 2, Wrong: good.Wrong}, {Side: -1, Wrong: good.Wrong}, good.With(spec.Step{}), good.With(wait(17)), good.With(wait(16)).With(wait(16)).With(wait(9))} {
		if r, e := play.Run(conf(), s, []int{1, 2}); e != api.ErrArg || !sameResult(r, play.Result{}) {
			t.Error(s, r, e)
		}
	}
	if _, e := play.Run(api.Config{Streams: 1, Queue: 1, Table: 4096}, good, nil); e != api.OK {
		t.Error(e)
	}
}

func TestP50Told(t *testing.T) {
	s := of(client, "ping7", 1)
	ahead, size := all(both(), wrongs(s)), []api.Fault{conn(api.SizeError)}
	for _, x := range []struct {
		choice, verdict int
		got             api.Fault
		told            bool
	}{
		{31, match.Passed, conn(6), true},
		{33, match.Passed, conn(6), true}, // behind a ping
		{31 + 70, match.Passed, conn(6), true},
		{6, match.Failed, conn(1), true},
		{32, match.Failed, api.Fault{Scope: api.OfStream, Code: 6}, true},
		{30, match.Failed, api.Fault{}, false},
		{34, match.Failed, api.Fault{}, false},
		{-1, match.Failed, api.Fault{}, false},
	} {
		want := play.Result{Verdict: x.verdict, Frames: all(ahead, peer.React(server, 1, x.choice)), At: 3, Faults: size, Got: x.got, Told: x.told}
		is(t, run(t, conf(), s, 1, x.choice), want)
		is(t, run(t, conf(), s, 1, x.choice, 9, 9, 9), want) // what is left of the choices is nothing
		is(t, run(t, conf(), s, math.MinInt, x.choice), want)
	}
	// When there are no more choices, it is 1: GOAWAY without an error.
	want := play.Result{Verdict: match.Failed, Frames: all(ahead, peer.React(server, 1, 1)), At: 3, Faults: size, Got: conn(0), Told: true}
	is(t, run(t, conf(), s), want)
	is(t, run(t, conf(), s, 9), want)
}

func TestP50OfTheServer(t *testing.T) {
	s := of(server, "barred", 3)
	want := play.Result{Verdict: match.Passed, Frames: all(both(), wrongs(s), peer.React(client, 3, 6)), At: 3, Faults: []api.Fault{conn(api.ProtocolError)}, Got: conn(1), Told: true}
	is(t, run(t, conf(), s, 0, 6), want)
	// By a code of the stream it may be told, where the rule is of the stream.
	s = of(client, "barred", 3)
	stream := api.Fault{Scope: api.OfStream, Code: api.ProtocolError}
	is(t, run(t, conf(), s, 0, 7), play.Result{Verdict: match.Passed, Frames: all(both(), wrongs(s), peer.React(server, 3, 7)), At: 3, Faults: []api.Fault{stream}, Got: stream, Told: true})
	is(t, run(t, conf(), s, 0, 6), play.Result{Verdict: match.Failed, Frames: all(both(), wrongs(s), peer.React(server, 3, 6)), At: 3, Faults: []api.Fault{stream}, Got: conn(1), Told: true})
}

// TestP50WrongInTheEnd: of two frames just the last one is rejected.
func TestP50WrongInTheEnd(t *testing.T) {
	s := of(client, "within", 1)
	is(t, run(t, conf(), s, 0, 6), play.Result{Verdict: match.Passed, Frames: all(both(), wrongs(s), peer.React(server, 1, 6)), At: 4, Faults: []api.Fault{conn(1)}, Got: conn(1), Told: true})
	// The first one has no bytes, for which there must be room.
	long := conf()
	long.Block = 0
	is(t, run(t, long, s, 0, 6), play.Result{Verdict: match.Passed, Frames: all(both(), wrongs(s), peer.React(server, 1, 6)), At: 4, Faults: []api.Fault{conn(1)}, Got: conn(1), Told: true})
}

func TestP50Void(t *testing.T) {
	// The settings of the server are not acknowledged yet: an ACK is nothing wrong.
	s := of(client, "ack", 1)
	is(t, run(t, conf(), s), play.Result{Verdict: match.Void, Frames: all(both(), ack(client)), At: 4})
	// Behind a wait they are.
	s = of(client, "ack", 1, wait(1))
	is(t, run(t, conf(), s, 0, 0, 6), play.Result{Verdict: match.Passed, Frames: all(both(), ack(client), ack(client), peer.React(server, 1, 6)), At: 4, Faults: []api.Fault{conn(1)}, Got: conn(1), Told: true})
	// DATA on a stream that is open.
	s = of(client, "dataidle", 1, get(1, false))
	is(t, run(t, conf(), s, 0, 0, 6), play.Result{Verdict: match.Void, Frames: all(both(), driver.Frames(client, get(1, false)), ack(client), wrongs(s)), At: 6})
	// Ignored is not rejected.
	s = of(client, "dataidle", 1, get(1, false))
	r := run(t, conf(), s, 0, 6, 6)
	if want := all(both(), driver.Frames(client, get(1, false)), peer.Turn(server, all(both(), driver.Frames(client, get(1, false))), 6), ack(client), wrongs(s)); r.Verdict != match.Void || r.At != len(want) || !same(r.Frames, want) {
		t.Error(r)
	}
	// There is no room for the block.
	c := conf()
	c.Block = 0
	for _, name := range []string{"table", "update", "upper"} {
		s = of(client, name, 1)
		is(t, run(t, c, s, 0, 6), play.Result{Verdict: match.Void, Frames: all(both(), wrongs(s)), At: 4})
	}
}

func TestP50Broken(t *testing.T) {
	s := of(client, "ping7", 1, wait(1))
	alone := peer.Turn(server, both(), 9)
	is(t, run(t, conf(), s, 1, 9, 31), play.Result{Verdict: match.Broken, Frames: all(both(), alone), At: 3})
	// Skipped stays; neither the other steps nor what is wrong come.
	s = of(client, "ping7", 1, spec.Step{Kind: spec.Data, Stream: 1, N: 1}, wait(2), get(1, true))
	is(t, run(t, conf(), s, 1, 3, 3, 9), play.Result{Verdict: match.Broken, Frames: all(both(), peer.Turn(server, both(), 3), ack(client), peer.Turn(server, both(), 3), alone), Skipped: []int{0}, At: 6})
	// There is no room for a ping, which is not allowed either.
	c := conf()
	c.Pings = 0
	s = of(client, "ping7", 1, wait(1))
	is(t, run(t, c, s, 1, 4, 31), play.Result{Verdict: match.Broken, Frames: all(both(), ping(server, 0, 9)), At: 3})
	// The client resets a stream on which nothing was asked.
	s = of(server, "ping7", 1, wait(1))
	is(t, run(t, conf(), s, 1, 6, 31), play.Result{Verdict: match.Broken, Frames: all(both(), peer.Turn(client, both(), 6)), At: 3})
}

func TestP50Steps(t *testing.T) {
	call := spec.Step{Kind: spec.Call, N: 7}
	s := of(client, "ping7", 1, call, get(1, true))
	calls, asks := driver.Frames(client, call), driver.Frames(client, get(1, true))
	l := all(both(), calls)
	l = all(l, peer.Turn(server, l, 1), ack(client), asks)
	l = all(l, peer.Turn(server, l, 2), wrongs(s))
	is(t, run(t, conf(), s, 0, 1, 2, 31), play.Result{Verdict: match.Passed, Frames: all(l, peer.React(server, 1, 31)), At: len(l) - 1, Faults: []api.Fault{conn(6)}, Got: conn(6), Told: true})
}

// TestP50SmallerTable: the peer's blocks tell the size 0 first, so that they keep within a table that the driver has made smaller.
func TestP50SmallerTable(t *testing.T) {
	for _, size := range []int{0, 100} {
		set := spec.Step{Kind: spec.Set, Settings: []api.Setting{{Id: api.SetTable, Value: size}}}
		for _, s := range []spec.Scenario{of(client, "ping7", 1, set, get(1, true)), of(server, "ping7", 1, wait(1), set, wait(1))} {
			r := run(t, conf(), s, 1, 1, 1, 2, 31)
			if s.Side == client {
				r = run(t, conf(), s, 1, 1, 2, 31)
			}
			block := slices.ContainsFunc(r.Frames, func(x api.Raw) bool { return x.From == 1-s.Side && x.Type == api.Headers })
			if r.Verdict != match.Passed || len(r.Skipped) > 0 || !block {
				t.Error(size, s, r)
			}
		}
	}
}

func TestP50Skipped(t *testing.T) {
	c := conf()
	c.Queue = 1
	set := spec.Step{Kind: spec.Set, Settings: []api.Setting{{Id: api.SetFrame, Value: 16384}}}
	bad := spec.Step{Kind: spec.Set, Settings: []api.Setting{{Id: api.SetFrame, Value: 1}}}
	data := spec.Step{Kind: spec.Data, Stream: 1, N: 5}
	// For settings there is room when those ahead are acknowledged.
	s := of(client, "ping7", 1, set, bad, data, wait(1), set, set, wait(0), get(2, true))
	r := run(t, c, s, 0, 0, 0, 0, 1, 0, 0, 0, 31)
	if want := []int{0, 1, 2, 5, 7}; !slices.Equal(r.Skipped, want) || r.Verdict != match.Passed {
		t.Error(r)
	}
	l := all(both(), ack(client), ack(server), driver.Frames(client, set))
	is(t, r, play.Result{Verdict: match.Passed, Frames: all(l, wrongs(s), peer.React(server, 1, 31)), Skipped: r.Skipped, At: len(l), Faults: []api.Fault{conn(6)}, Got: conn(6), Told: true})
}

// TestP50Wait: behind each turn of the peer the driver does its duties.
func TestP50Wait(t *testing.T) {
	s := of(client, "ping7", 1, wait(3))
	l := all(both(), ping(server, 0, 9), ack(client), ping(client, api.FlagAck, 9), ping(server, 0, 9), ping(client, api.FlagAck, 9))
	l = all(l, peer.Turn(server, l, 5), ack(client))
	is(t, run(t, conf(), s, 0, 4, 4, 5, 31), play.Result{Verdict: match.Passed, Frames: all(l, wrongs(s), peer.React(server, 1, 31)), At: len(l), Faults: []api.Fault{conn(6)}, Got: conn(6), Told: true})
	s = of(client, "ping7", 1, wait(0))
	is(t, run(t, conf(), s, 0, 31), play.Result{Verdict: match.Passed, Frames: all(both(), wrongs(s), peer.React(server, 1, 31)), At: 3, Faults: []api.Fault{conn(6)}, Got: conn(6), Told: true})
}

package driver_test

import (
	"bytes"
	"math"
	"math/rand"
	"slices"
	"testing"

	"stickler/api"
	"stickler/decoder"
	"stickler/driver"
	"stickler/monitor"
	"stickler/preface"
	"stickler/spec"
)

const (
	client = api.Client
	server = api.Server
	ack    = api.FlagAck
	most   = 1<<31 - 1
)

func conf() api.Config {
	return api.Config{Grace: 1, Streams: 9, Block: 1000, Queue: 3, Pings: 3, Table: 8000}
}

func raw(from, kind, flags, stream int, body string) api.Raw {
	return api.Raw{From: from, Type: kind, Flags: flags, Stream: stream, Body: []byte(body)}
}

func sets(from int) api.Raw { return raw(from, api.Settings, 0, 0, "") }

func acks(from int) api.Raw { return raw(from, api.Settings, ack, 0, "") }

func ping(from int, data string) api.Raw { return raw(from, api.Ping, 0, 0, data) }

func pong(from int, data string) api.Raw { return raw(from, api.Ping, ack, 0, data) }

const (
	a8 = "aaaaaaaa"
	b8 = "bbbbbbbb"
	c8 = "cccccccc"
)

func same(a, b []api.Raw) bool {
	return slices.EqualFunc(a, b, func(x, y api.Raw) bool {
		return x.From == y.From && x.Type == y.Type && x.Flags == y.Flags && x.Stream == y.Stream && x.Res == y.Res && bytes.Equal(x.Body, y.Body)
	})
}

// copied are the same frames in other memory.
func copied(l []api.Raw) []api.Raw {
	all := slices.Clone(l)
	for i := range all {
		all[i].Body = bytes.Clone(all[i].Body)
	}
	return all
}

func noSides() []int { return []int{-1, 2, math.MinInt, math.MaxInt} }

func TestP47Open(t *testing.T) {
	for range 2 { // what is answered first is spoilt: it must be new memory
		l := driver.Open(client)
		if !same(l, []api.Raw{raw(client, api.Preface, 0, 0, string(preface.Text())), sets(client)}) {
			t.Fatal(l)
		}
		l[0].Body[0]++
	}
	if l := driver.Open(server); !same(l, []api.Raw{sets(server)}) {
		t.Error(l)
	}
	for _, side := range noSides() {
		if l := driver.Open(side); len(l) > 0 {
			t.Error(side, l)
		}
	}
}

func TestP47Frames(t *testing.T) {
	fields := []api.Field{{Name: ":status", Value: "200"}, {Name: "a", Value: "b"}, {Name: "a", Value: "b", Never: true}, {Name: "cookie", Value: "c", Never: true}}
	block := " " + "\x08\x03200" + "\x00\x01a\x01b" + "\x10\x01a\x01b" + "\x1f\x11\x01c"
	for _, x := range []struct {
		step spec.Step
		want api.Raw
	}{
		{spec.Step{Kind: spec.Headers, Stream: 1}, raw(0, 1, 4, 1, " ")}, // the byte 32: the table's size is 0
		{spec.Step{Kind: spec.Headers, Stream: most, End: true, Fields: fields}, raw(0, 1, 5, most, block)},
		{spec.Step{Kind: spec.Data, Stream: 2}, raw(0, 0, 0, 2, "")},
		{spec.Step{Kind: spec.Data, Stream: 1, N: 3, End: true}, raw(0, 0, 1, 1, "\x00\x00\x00")},
		{spec.Step{Kind: spec.Data, Stream: 1, N: 16384}, raw(0, 0, 0, 1, string(make([]byte, 16384)))},
		{spec.Step{Kind: spec.Set}, sets(0)},
		{spec.Step{Kind: spec.Set, Settings: []api.Setting{{Id: 4, Value: 258}, {Id: 65535, Value: 1<<32 - 1}}}, raw(0, 4, 0, 0, "\x00\x04\x00\x00\x01\x02\xff\xff\xff\xff\xff\xff")},
		{spec.Step{Kind: spec.Grow, N: 1}, raw(0, 8, 0, 0, "\x00\x00\x00\x01")},
		{spec.Step{Kind: spec.Grow, Stream: 7, N: most}, raw(0, 8, 0, 7, "\x7f\xff\xff\xff")},
		{spec.Step{Kind: spec.Cut, Stream: 1}, raw(0, 3, 0, 1, "\x00\x00\x00\x00")},
		{spec.Step{Kind: spec.Cut, Stream: 5, N: 1<<32 - 1}, raw(0, 3, 0, 5, "\xff\xff\xff\xff")},
		{spec.Step{Kind: spec.Call, N: 255}, ping(0, "\x00\x00\x00\x00\x00\x00\x00\xff")},
		{spec.Step{Kind: spec.Call}, ping(0, "\x00\x00\x00\x00\x00\x00\x00\x00")},
		{spec.Step{Kind: spec.Leave, N: most}, raw(0, 7, 0, 0, "\x7f\xff\xff\xff\x00\x00\x00\x00")},
		{spec.Step{Kind: spec.Leave}, raw(0, 7, 0, 0, "\x00\x00\x00\x00\x00\x00\x00\x00")},
	} {
		for side := range 2 {
			x.want.From = side
			if l := driver.Frames(side, x.step); !same(l, []api.Raw{x.want}) {
				t.Error(side, x.step, l)
			}
		}
		for _, side := range noSides() {
			if l := driver.Frames(side, x.step); len(l) > 0 {
				t.Error(side, x.step, l)
			}
		}
	}
}

// TestP47FramesTellTheSize: whatever the fields, the size 0 stands ahead of them, so that they may come behind any bound of the table.
func TestP47FramesTellTheSize(t *testing.T) {
	asks := spec.Step{Kind: spec.Headers, Stream: 1, End: true, Fields: []api.Field{{Name: ":method", Value: "GET"}, {Name: ":scheme", Value: "http"}, {Name: ":path", Value: "/"}}}
	answers := spec.Step{Kind: spec.Headers, Stream: 1, End: true, Fields: []api.Field{{Name: ":status", Value: "200"}}}
	begun := slices.Concat(driver.Open(client), driver.Open(server), []api.Raw{acks(client), acks(server)})
	for _, size := range []int{0, 1, 100, 4095} {
		for side := range 2 {
			smaller := driver.Frames(1-side, spec.Step{Kind: spec.Set, Settings: []api.Setting{{Id: api.SetTable, Value: size}}})
			l, x := slices.Concat(begun, smaller, []api.Raw{acks(side)}), asks
			if side == server {
				l, x = slices.Concat(begun, driver.Frames(client, asks), smaller, []api.Raw{acks(side)}), answers
			}
			if more := driver.Frames(side, x); !driver.Allowed(conf(), l, more) {
				t.Error(side, size, more)
			}
		}
	}
	for n := range 21 {
		x := spec.Step{Kind: spec.Headers, Stream: 1}
		for range n {
			x.Fields = append(x.Fields, api.Field{Name: "a", Value: "b", Never: n%2 == 1})
		}
		for side := range 2 {
			l := driver.Frames(side, x)
			dec, _ := decoder.New(4096)
			if len(l) != 1 {
				t.Fatal(side, n, l)
			}
			if got, e := dec.Decode(l[0].Body); e != api.OK || !slices.Equal(got.Sizes, []int{0}) || !slices.Equal(got.Fields, x.Fields) || dec.Max() != 0 {
				t.Error(side, n, got, e)
			}
		}
	}
}

func TestP47FramesOfNone(t *testing.T) {
	for _, x := range []spec.Step{
		{}, {Kind: 9, Stream: 1}, {Kind: -1}, {Kind: spec.Wait}, {Kind: spec.Wait, N: 5}, {Kind: spec.Headers}, {Kind: spec.Headers, Stream: 1, N: 1},
		{Kind: spec.Data, Stream: 1, N: 16385}, {Kind: spec.Data, N: 1}, {Kind: spec.Grow}, {Kind: spec.Cut}, {Kind: spec.Call, N: 256}, {Kind: spec.Leave, N: -1},
		{Kind: spec.Set, Settings: []api.Setting{{Id: -1}}}, {Kind: spec.Set, Settings: make([]api.Setting, 11)},
	} {
		for side := range 2 {
			if l := driver.Frames(side, x); len(l) > 0 {
				t.Error(side, x, l)
			}
		}
	}
}

func TestP47Duties(t *testing.T) {
	for i, x := range []struct{ l, want []api.Raw }{ // all of the client
		{nil, nil},
		{[]api.Raw{sets(server), sets(server), acks(client)}, []api.Raw{acks(client)}},
		{[]api.Raw{sets(server)}, []api.Raw{acks(client)}},
		{[]api.Raw{sets(server), sets(server)}, []api.Raw{acks(client), acks(client)}},
		{[]api.Raw{sets(server), acks(client)}, nil},
		{[]api.Raw{acks(client), acks(client), sets(server)}, nil},
		{[]api.Raw{acks(client), sets(server), sets(server)}, []api.Raw{acks(client)}},
		{[]api.Raw{sets(client), acks(server), pong(server, a8), ping(client, a8)}, nil},
		{[]api.Raw{ping(server, b8), sets(server), ping(server, a8)}, []api.Raw{acks(client), pong(client, b8), pong(client, a8)}},
		{[]api.Raw{ping(server, a8), ping(server, b8), pong(client, b8)}, []api.Raw{pong(client, a8)}},
		{[]api.Raw{ping(server, a8), ping(server, b8), ping(server, a8), pong(client, a8)}, []api.Raw{pong(client, b8), pong(client, a8)}},
		{[]api.Raw{ping(server, a8), pong(client, a8), pong(client, a8), ping(server, a8)}, []api.Raw{pong(client, a8)}},
		{[]api.Raw{pong(client, a8), ping(server, a8)}, []api.Raw{pong(client, a8)}},
		{[]api.Raw{ping(server, a8), pong(client, b8), pong(server, a8), ping(client, a8)}, []api.Raw{pong(client, a8)}},
		// Bits that mean nothing change nothing.
		{[]api.Raw{raw(server, api.Settings, 254, 0, ""), raw(server, api.Ping, 2, 0, a8), raw(client, api.Ping, 255, 0, a8)}, []api.Raw{acks(client)}},
		// What is wrong in itself, or no frame, counts for nothing.
		{[]api.Raw{raw(server, api.Settings, 0, 1, ""), raw(server, api.Settings, 0, 0, "x"), ping(server, a8[1:]), raw(server, api.Ping, 0, 1, a8), raw(server, api.Settings, 256, 0, ""), raw(server, api.Preface, 0, 0, a8)}, nil},
		{[]api.Raw{sets(server), ping(server, a8), raw(client, api.Settings, ack, 0, "\x00\x01\x00\x00\x00\x00"), raw(client, api.Settings, ack, 1, ""), raw(client, api.Ping, ack, 1, a8), raw(client, api.Ping, 257, 0, a8)}, []api.Raw{acks(client), pong(client, a8)}},
		// Other frames answer nothing, nor do those of nobody.
		{[]api.Raw{ping(server, a8), raw(client, api.Data, 1, 1, a8), raw(client, 77, 1, 0, a8), raw(client, api.Headers, 5, 1, a8)}, []api.Raw{pong(client, a8)}},
		{[]api.Raw{sets(2), sets(-1), ping(2, a8), sets(server), acks(2), ping(server, b8), pong(-1, b8)}, []api.Raw{acks(client), pong(client, b8)}},
	} {
		before := copied(x.l)
		if got := driver.Duties(client, x.l); !same(got, x.want) {
			t.Error(i, got)
		}
		mirror := func(l []api.Raw) []api.Raw {
			all := copied(l)
			for i := range all {
				all[i].From = 1 - all[i].From
			}
			return all
		}
		if got := driver.Duties(server, mirror(x.l)); !same(got, mirror(x.want)) {
			t.Error(i, "of the server:", got)
		}
		for _, side := range noSides() {
			if got := driver.Duties(side, x.l); len(got) > 0 {
				t.Error(i, side, got)
			}
		}
		for _, r := range driver.Duties(client, x.l) {
			for j := range r.Body {
				r.Body[j]++
			}
		}
		if !same(x.l, before) {
			t.Error(i, "changed:", x.l)
		}
	}
}

// TestP47DutiesAreDone: behind what a side owes it owes nothing; and each of the other side's pings is answered once, in order.
func TestP47DutiesAreDone(t *testing.T) {
	random := rand.New(rand.NewSource(47))
	for range 2000 {
		var l []api.Raw
		for range random.Intn(12) {
			from, data := random.Intn(2), []string{a8, b8, c8}[random.Intn(3)]
			l = append(l, []api.Raw{sets(from), acks(from), ping(from, data), pong(from, data)}[random.Intn(4)])
		}
		side := random.Intn(2)
		got := driver.Duties(side, l)
		if want := owed(side, l); !same(got, want) {
			t.Fatal(side, l, got, want)
		}
		if rest := driver.Duties(side, slices.Concat(l, got)); len(rest) > 0 {
			t.Fatal(side, l, rest)
		}
	}
}

// owed is what a side owes by the document's words; all of l are right.
func owed(side int, l []api.Raw) []api.Raw {
	var all []api.Raw
	n := 0
	for _, r := range l {
		if r.Type == api.Settings && r.From == 1-side && r.Flags == 0 {
			n++
		}
		if r.Type == api.Settings && r.From == side && r.Flags == ack {
			n--
		}
	}
	for ; n > 0; n-- {
		all = append(all, acks(side))
	}
	answered := make([]bool, len(l))
	for i, r := range l {
		if r.Type != api.Ping || r.From != side || r.Flags != ack {
			continue
		}
		for j := range i {
			if l[j].Type == api.Ping && l[j].From == 1-side && l[j].Flags == 0 && bytes.Equal(l[j].Body, r.Body) && !answered[j] {
				answered[j] = true
				break
			}
		}
	}
	for i, r := range l {
		if r.Type == api.Ping && r.From == 1-side && r.Flags == 0 && !answered[i] {
			all = append(all, pong(side, string(r.Body)))
		}
	}
	return all
}

func TestP47Allowed(t *testing.T) {
	both := slices.Concat(driver.Open(client), driver.Open(server))
	ignored := raw(client, 77, 0, 0, "")
	order := raw(client, api.Continue, 4, 1, "")
	pings := func(n int) []api.Raw { return slices.Repeat([]api.Raw{ping(server, a8)}, n) }
	for i, x := range []struct {
		l, more []api.Raw
		want    bool
	}{
		{nil, nil, true},
		{both, nil, true},
		{nil, both, true},
		{both, []api.Raw{ignored, acks(client), acks(server)}, true},
		{slices.Concat(both, []api.Raw{ignored}), []api.Raw{acks(client)}, true},
		{both, []api.Raw{order}, false},
		{both, []api.Raw{acks(client), acks(client)}, false},
		{slices.Concat(both, []api.Raw{order}), nil, false},
		{slices.Concat(both, []api.Raw{order}), both, false},
		{slices.Concat(both, []api.Raw{acks(client)}), []api.Raw{acks(client)}, false},
		{both, []api.Raw{order, acks(client)}, false},
		{both, pings(3), true}, // there is room for so many
		{both, pings(4), false},
		{slices.Concat(both, pings(4)), nil, false},
		{nil, []api.Raw{sets(client)}, false}, // it is no frame yet
		{nil, []api.Raw{{From: 2}}, false},
		{both, []api.Raw{{Type: 256}}, false},
		{both[:2], both[:1], false},
	} {
		l, more := copied(x.l), copied(x.more)
		l = slices.Grow(l, 9)
		spare := slices.Clone(l[:cap(l)])
		if got := driver.Allowed(conf(), l, more); got != x.want {
			t.Error(i, got)
		}
		if !same(l[:cap(l)], spare) || !same(more, x.more) {
			t.Error(i, "changed")
		}
	}
	for _, c := range []api.Config{{}, {Grace: -1, Streams: 9, Queue: 3, Table: 8000}, {Streams: 9, Queue: 33, Table: 8000}} {
		if driver.Allowed(c, nil, nil) || driver.Allowed(c, both, nil) {
			t.Error("allowed by what is no config:", c)
		}
	}
}

// TestP47AllowedAsJudged holds it against a monitor, frame by frame.
func TestP47AllowedAsJudged(t *testing.T) {
	random := rand.New(rand.NewSource(474))
	both := slices.Concat(driver.Open(client), driver.Open(server))
	for range 300 {
		l := slices.Clone(both)
		for range 1 + random.Intn(8) {
			from := random.Intn(2)
			l = append(l, []api.Raw{sets(from), acks(from), ping(from, a8), raw(from, 99, 0, 0, ""), raw(from, api.Window, 0, 1, "\x00\x00\x00\x01")}[random.Intn(5)])
		}
		m, _ := monitor.New(conf())
		is := true
		for _, r := range l {
			o, e := m.Step(r)
			is = is && e == api.OK && (o.Kind == api.Allowed || o.Kind == api.Ignored)
		}
		at := random.Intn(len(l) + 1)
		if got := driver.Allowed(conf(), l[:at], l[at:]); got != is {
			t.Fatal(l, at, got)
		}
	}
}

package monitor_test

import (
	"math"
	"slices"
	"testing"

	"stickler/api"
	"stickler/monitor"
	"stickler/preface"
	"stickler/rules"
)

const (
	protocol = "connection:PROTOCOL_ERROR"
	ended    = "stream:STREAM_CLOSED"
	lost     = "connection:PROTOCOL_ERROR,connection:STREAM_CLOSED"
	top      = api.MaxStream
)

func TestP401New(t *testing.T) {
	for _, c := range []api.Config{{}, graced(-1), graced(65), {Grace: 1, Streams: 0, Queue: 1, Table: 4096}} {
		if m, e := monitor.New(c); m != nil || e != api.ErrArg {
			t.Errorf("%+v: %v", c, e)
		}
	}
	m := made(t, conf(), nil)
	if m.Over() || m.Variants(0) != 1 || m.Variants(1) != 1 {
		t.Error("a new one:", m.Over(), m.Variants(0))
	}
	if n, max := m.Table(0); n != 0 || max != 4096 {
		t.Error(n, max)
	}
	for _, c := range []api.Config{graced(0), graced(64), {Streams: 1, Queue: 1, Table: 4096}} {
		made(t, c, both())
	}
}

func TestP402Wrong(t *testing.T) {
	m := made(t, conf(), nil)
	wrong := func(l ...api.Raw) {
		t.Helper()
		for _, r := range l {
			if o, e := m.Step(r); e != api.ErrArg || o.Kind != 0 || len(o.Fields)+len(o.Rules)+len(o.Faults) > 0 || m.Over() {
				t.Errorf("%+v: %+v, %v", r, o, e)
			}
		}
	}
	never := []api.Raw{ping(2), ping(-1), raw(server, -1, 0, 0, preface.Text()...), raw(server, 256, 0, 0), raw(server, 6, 256, 0), raw(server, 6, 0, -1), raw(server, -5, 0, 0), raw(math.MaxInt, -1, 0, 0)}
	wrong(never...)
	wrong(sets(client), ping(client))
	step(t, m, both()[0])
	wrong(never...)
	wrong(both()[0])
	step(t, m, sets(client))
	step(t, m, sets(server))
	wrong(never...)
	if o := step(t, m, get(1, end)); o.Kind != api.Allowed {
		t.Error(o)
	}
}

func TestP402Over(t *testing.T) {
	over := func(m *monitor.Monitor) {
		t.Helper()
		for _, r := range []api.Raw{ping(client), ping(7), sets(server), {Type: -9}} {
			if o, e := m.Step(r); e != api.ErrOver || o.Kind != 0 || !m.Over() {
				t.Error(o, e)
			}
		}
	}
	m := made(t, conf(), both())
	step(t, m, data(client, 1, 1, 0))
	over(m)
	c := conf()
	c.Pings = 0
	m = made(t, c, both())
	if o := step(t, m, ping(client)); o.Kind != api.Limited {
		t.Error(o)
	}
	over(m)
}

func TestP402Allowed(t *testing.T) {
	m := made(t, conf(), nil)
	for _, x := range []struct {
		r    api.Raw
		kind int
		l    []string
	}{
		{both()[0], api.Allowed, nil},
		{sets(client), api.Allowed, nil},
		{sets(server), api.Allowed, nil},
		{get(1, 0), api.Allowed, []string{":method=GET", ":scheme=http", ":path=/"}},
		{raw(server, api.Headers, 0, 1, bytes(nil, ":status=200")...), api.Allowed, nil},
		{raw(server, api.Continue, whole, 1, bytes(nil, "a=b")...), api.Allowed, []string{":status=200", "a=b"}},
		{push(1, 2), api.Allowed, []string{":method=GET", ":scheme=http", ":path=/"}},
		{reset(server, 1), api.Allowed, nil},
		{headers(client, 1, end, "A=b"), api.Ignored, []string{"A=b"}},
		{data(client, 1, 5, 0), api.Ignored, nil},
		{raw(client, api.Priority, 0, 9, 0, 0, 0, 0, 0), api.Ignored, nil},
		{raw(client, api.Ping, api.FlagAck, 0, make([]byte, 8)...), api.Ignored, nil},
		{long(client, 3), api.Ignored, nil},
	} {
		o := step(t, m, x.r)
		if o.Kind != x.kind || !slices.Equal(o.Fields, fields(x.l...)) || len(o.Rules)+len(o.Faults) > 0 || m.Over() {
			t.Errorf("%+v: %+v", x.r, o)
		}
	}
}

func TestP402Examples(t *testing.T) {
	c := conf()
	comes(t, c, api.Allowed, both()...)
	rejects(t, c, "first", protocol, ping(server))
	comes(t, c, api.Allowed, begin(get(1, end), status(1, end))...)
	rejects(t, c, "ended", ended, begin(get(1, end), data(client, 1, 1, 0))...)
	late := begin(get(1, 0), reset(server, 1), data(client, 1, 1, 0))
	comes(t, c, api.Ignored, late...)
	rejects(t, graced(0), "forgotten", lost, late...)
	larger := begin(sets(server, api.SetFrame, 1<<15), long(client, 20000))
	comes(t, c, api.Ignored, larger...)
	rejects(t, c, "size", "connection:FRAME_SIZE_ERROR", begin(long(client, 20000))...)
	comes(t, c, api.Ignored, append(larger, ack(client), ack(client), long(client, 1<<15))...)
	rejects(t, c, "size", "stream:FRAME_SIZE_ERROR", append(larger, get(1, 0), data(client, 1, 1<<15+1, 0))...)
	small := begin(sets(server, api.SetWindow, 5), ack(client), ack(client), get(1, 0))
	comes(t, c, api.Allowed, append(small, data(client, 1, 5, 0))...)
	rejects(t, c, "stream", "stream:FLOW_CONTROL_ERROR,connection:FLOW_CONTROL_ERROR", append(small, data(client, 1, 6, 0))...)
	rejects(t, c, "table", "connection:COMPRESSION_ERROR", begin(raw(client, api.Headers, whole|end, 1, 128))...)
	rejects(t, c, "order", protocol, begin(raw(client, api.Headers, 0, 1), ping(client))...)
	comes(t, c, api.Allowed, begin(raw(client, api.Headers, 0, 1), ping(server))...)
}

func TestP402Settings(t *testing.T) {
	c := conf()
	// From when they are sent on they may be kept to, and must be when they are acknowledged.
	lower := []api.Raw{sets(server, api.SetFrame, 20000), sets(server, api.SetFrame, 16384)}
	comes(t, c, api.Ignored, begin(lower[0], lower[1], long(client, 20000), long(client, 20000))...)
	comes(t, c, api.Ignored, begin(lower[0], lower[1], ack(client), ack(client), long(client, 20000))...)
	rejects(t, c, "size", "connection:FRAME_SIZE_ERROR", begin(lower[0], lower[1], ack(client), ack(client), ack(client), long(client, 20000))...)
	// What was kept to once isn't left for what came ahead of it.
	two := begin(sets(server, api.SetFrame, 20000), sets(server, api.SetFrame, 16384, api.SetWindow, 70000), get(1, 0), grow(server, 0, 9000))
	var most []api.Raw
	for range 4 {
		most = append(most, data(client, 1, 16384, 0))
	}
	comes(t, c, api.Ignored, append(two, long(client, 20000))...)
	comes(t, c, api.Allowed, append(two, most...)...)
	rejects(t, c, "size", "connection:FRAME_SIZE_ERROR", append(append(two, most...), long(client, 20000))...)
	comes(t, c, api.Allowed, append(append(two, long(client, 20000)), most...)...)
	// Each number names its own rule.
	pushes := begin(get(1, 0), sets(client, api.SetPush, 0), push(1, 2))
	comes(t, c, api.Allowed, pushes...)
	rejects(t, c, "push", protocol, begin(get(1, 0), sets(client, api.SetPush, 0), ack(server), ack(server), push(1, 2))...)
	c.Block = 30000
	rejects(t, c, "size,update", "connection:FRAME_SIZE_ERROR,connection:COMPRESSION_ERROR", begin(sets(server, api.SetFrame, 1<<15, api.SetTable, 100), raw(client, api.Headers, whole, 1, bytes([]int{4000}, "a="+string(make([]byte, 20000)))...))...)
}

func TestP402Late(t *testing.T) {
	c := conf()
	closed := begin(get(1, 0), get(3, 0), reset(server, 1), reset(server, 3))
	comes(t, c, api.Ignored, append(closed, data(client, 1, 1, 0), data(client, 1, 1, 0))...)
	comes(t, c, api.Ignored, append(closed, data(client, 3, 1, 0))...)
	rejects(t, c, "forgotten", lost, append(closed, data(client, 1, 1, 0), data(client, 3, 1, 0))...)
	rejects(t, c, "forgotten", lost, append(closed, data(client, 3, 1, 0), data(client, 1, 1, 0))...)
	comes(t, graced(2), api.Ignored, append(closed, data(client, 1, 1, 0), data(client, 3, 1, 0), data(client, 1, 1, 0))...)
	// What hangs on no stream's being known tells nothing of it.
	comes(t, c, api.Ignored, append(closed, data(client, 1, 1, 0), raw(client, api.Priority, 0, 3, 0, 0, 0, 0, 0), raw(client, 77, 0, 3), data(client, 1, 1, 0))...)
	comes(t, c, api.Ignored, append(closed, raw(client, api.Priority, 0, 3, 0, 0, 0, 0, 0), raw(client, 77, 0, 3), data(client, 1, 1, 0))...)
	// It is the receiver that knows.
	own := begin(get(1, 0), get(3, 0), reset(client, 1), reset(client, 3))
	comes(t, c, api.Ignored, append(own, data(server, 1, 1, 0), data(server, 1, 1, 0))...)
	comes(t, c, api.Ignored, append(own, reset(server, 1), reset(server, 1))...)
	rejects(t, c, "reset,forgotten", "stream:STREAM_CLOSED,"+lost, append(own, data(server, 1, 1, 0), data(client, 1, 1, 0))...)
	rejects(t, c, "reset,forgotten", "stream:STREAM_CLOSED,"+lost, append(own, data(server, 1, 1, 0), data(client, 3, 1, 0))...)
	rejects(t, c, "forgotten", lost, append(own, data(server, 1, 1, 0), data(server, 3, 1, 0))...)
	rejects(t, c, "closed,forgotten", "stream:STREAM_CLOSED,"+lost, begin(get(1, end), status(1, end), data(client, 1, 1, 0))...)
	rejects(t, graced(0), "forgotten", lost, begin(get(1, end), status(1, end), data(client, 1, 1, 0))...)
	// Promises on what the client has closed.
	gone := begin(get(1, 0), get(3, 0), reset(client, 1), reset(client, 3))
	comes(t, c, api.Allowed, append(gone, push(3, 2))...)
	rejects(t, c, "promise", protocol, append(gone, push(3, 2), push(1, 4))...)
	rejects(t, graced(0), "promise", protocol, append(gone, push(3, 2))...)
	// Beyond the last stream it doesn't matter who knows of it.
	comes(t, graced(0), api.Ignored, append(closed, away(server, 1), data(client, 3, 1, 0))...)
	rejects(t, graced(0), "forgotten", lost, append(closed, away(server, 1), data(client, 1, 1, 0))...)
}

// Both of what nobody sees at once: a frame that needs a number and a stream that is known, and what doesn't agree with that.
func TestP402Both(t *testing.T) {
	c := conf()
	l := begin(get(1, 0), get(3, 0), reset(server, 1), reset(server, 3), sets(server, api.SetFrame, 20000), sets(server, api.SetFrame, 16384))
	longer := data(client, 1, 20000, 0)
	comes(t, c, api.Ignored, append(l, longer)...)
	comes(t, c, api.Ignored, append(l, longer, longer)...)
	rejects(t, c, "forgotten", lost, append(l, longer, data(client, 3, 1, 0))...)
	rejects(t, c, "size,forgotten", "stream:FRAME_SIZE_ERROR,"+lost, append(l, longer, data(client, 3, 20000, 0))...)
	rejects(t, graced(0), "size,forgotten", "stream:FRAME_SIZE_ERROR,"+lost, append(l, longer)...)
	rejects(t, c, "size", "stream:FRAME_SIZE_ERROR", append(l, data(client, 1, 20001, 0))...)
	rejects(t, c, "size,reset,forgotten", "stream:STREAM_CLOSED,stream:FRAME_SIZE_ERROR,"+lost, begin(get(1, 0), reset(client, 1), sets(server, api.SetFrame, 20000), data(client, 1, 20000, 0))...)
}

func TestP402Limited(t *testing.T) {
	c := conf()
	comes(t, c, api.Limited, begin(ping(client), ping(client), ping(client), ping(client))...)
	comes(t, c, api.Limited, begin(sets(server), sets(server), sets(server))...)
	comes(t, c, api.Limited, begin(raw(client, api.Headers, 0, 1, make([]byte, 1001)...))...)
	comes(t, c, api.Limited, begin(sets(server, api.SetTable, 10000), get(1, 0, 8001))...)
	comes(t, c, api.Limited, begin(sets(server, api.SetTable, 10000), away(server, 0), get(1, 0, 8001))...)
	c.Streams = 1
	comes(t, c, api.Limited, begin(get(1, 0), get(3, 0))...)
	comes(t, c, api.Limited, begin(get(1, 0), push(1, 2))...)
	rejects(t, c, "pseudo", "stream:PROTOCOL_ERROR", begin(get(1, 0), headers(client, 3, 0))...)
}

func TestP403Variants(t *testing.T) {
	m := made(t, conf(), nil)
	want := func(of, by int) {
		t.Helper()
		if m.Variants(client) != of || m.Variants(server) != by {
			t.Errorf("Variants: %d, %d, want %d, %d", m.Variants(client), m.Variants(server), of, by)
		}
		for _, side := range []int{math.MinInt, -1, 2, math.MaxInt} {
			if m.Variants(side) != 0 {
				t.Error("of", side)
			}
		}
	}
	want(1, 1)
	for _, x := range []struct {
		r      api.Raw
		of, by int
	}{
		{both()[0], 1, 1}, {sets(client), 2, 1}, {sets(server, api.SetFrame, 20000), 2, 2}, {sets(server, api.SetFrame, 30000), 2, 3},
		{ack(server), 1, 3}, {ack(client), 1, 2}, {long(client, 20001), 1, 1}, {ack(client), 1, 1}, {sets(server), 1, 2}, {sets(client, api.SetWindow, 0), 2, 2},
		{ping(client), 2, 2},
	} {
		step(t, m, x.r)
		want(x.of, x.by)
	}
	step(t, m, ack(server))
	want(1, 2)
	// A frame that is rejected narrows nothing.
	m = made(t, conf(), begin(sets(server, api.SetFrame, 20000)))
	step(t, m, long(client, 20001))
	want(2, 3)
	m = made(t, conf(), begin(sets(server, api.SetFrame, 20000), long(client, 20000)))
	want(2, 1)
}

func TestP403Table(t *testing.T) {
	m := made(t, conf(), begin(sets(server, api.SetTable, 6000)))
	want := func(side, size, max int) {
		t.Helper()
		if n, most := m.Table(side); n != size || most != max {
			t.Errorf("Table(%d): %d, %d", side, n, most)
		}
	}
	want(client, 0, 4096)
	step(t, m, get(1, 0, 6000))
	want(client, 0, 6000)
	step(t, m, raw(client, api.Headers, whole|end, 1, 64, 1, 'a', 1, 'b'))
	want(client, 34, 6000)
	want(server, 0, 4096)
	want(2, 0, 0)
	want(-1, 0, 0)
	step(t, m, raw(client, api.Headers, whole|end, 1, 64, 1, 'c', 1, 'd'))
	want(client, 68, 6000) // it was read, though it was rejected
}

func TestP403Nobody(t *testing.T) {
	var none *monitor.Monitor
	if o, e := none.Step(ping(9)); e != api.ErrNil || o.Kind != 0 {
		t.Error(o, e)
	}
	if o, e := new(monitor.Monitor).Step(ping(9)); e != api.ErrOver || o.Kind != 0 {
		t.Error(o, e)
	}
	for _, m := range []*monitor.Monitor{none, {}} {
		for _, side := range []int{0, 1, 2} {
			if n, max := m.Table(side); !m.Over() || m.Variants(side) != 0 || n != 0 || max != 0 {
				t.Error("of", side)
			}
		}
	}
}

// What a driver does wrong in the end, and the rule that is broken then.
func TestP402Wrongs(t *testing.T) {
	open := begin(ack(client), ack(server))
	request := []string{":method=GET", ":scheme=http", ":path=/"}
	for side := range 2 {
		// A server can't begin a stream.
		of := func(byClient, byServer string) string { return []string{byClient, byServer}[side] }
		for _, x := range []struct {
			broken string
			r      api.Raw
		}{
			{"form", raw(side, api.Data, api.FlagPadded, 1, 5, 0)},
			{"form", raw(side, api.Ping, 0, 0, make([]byte, 7)...)},
			{"form", raw(side, api.Ping, 0, 1, make([]byte, 8)...)},
			{"form", raw(side, api.Settings, 0, 1)},
			{"form", raw(side, api.Settings, api.FlagAck, 0, make([]byte, 6)...)},
			{"form", raw(side, api.Settings, 0, 0, make([]byte, 5)...)},
			{"step", grow(side, 0, 0)},
			{"window", grow(side, 0, top)},
			{"idle", data(side, 1, 1, 0)},
			{"idle", reset(side, 1)},
			{"order", raw(side, api.Continue, whole, 1)},
			{"form", raw(side, api.Priority, 0, 1, make([]byte, 4)...)},
			{"form", raw(side, api.Goaway, 0, 0, make([]byte, 7)...)},
			{of("client", "promise"), raw(side, api.Promise, whole, 1, 0, 0, 0, 2)},
			{"size", long(side, 16385)},
			{"table", raw(side, api.Headers, whole|end, 1, 128)},
			{"update", raw(side, api.Headers, whole|end, 1, bytes([]int{top})...)},
			{of("field", "idle"), headers(side, 1, end, append(request, "A=b")...)},
			{of("barred", "idle"), headers(side, 1, end, append(request, "connection=close")...)},
			{of("pseudo", "idle"), headers(side, 1, end, ":method=GET", ":scheme=http")},
			{"value", sets(side, api.SetPush, 2)},
			{"value", sets(side, api.SetFrame, 0)},
			{"value", sets(side, api.SetWindow, 1<<31)},
			{"form", raw(side, api.Reset, 0, 0, 0, 0, 0, 8)},
			{"ack", ack(side)},
		} {
			m := made(t, conf(), open)
			if o := step(t, m, x.r); o.Kind != api.Rejected || rules.Show(o.Rules) != x.broken || len(o.Faults) == 0 {
				t.Errorf("%s of %d: %+v", x.broken, side, o)
			}
		}
	}
}

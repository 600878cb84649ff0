package weave_test

import (
	"bytes"
	"math"
	"slices"
	"strings"
	"testing"

	"stickler/api"
	"stickler/encoder"
	"stickler/weave"
)

const (
	client = api.Client
	server = api.Server
	whole  = api.FlagBlock
	padded = api.FlagPadded
	none   = -1
	most   = 1<<31 - 1
)

func raw(from, kind, flags, stream int, body string) api.Raw {
	return api.Raw{From: from, Type: kind, Flags: flags, Stream: stream, Body: []byte(body)}
}

func same(a, b []api.Raw) bool {
	return slices.EqualFunc(a, b, func(x, y api.Raw) bool {
		return x.From == y.From && x.Type == y.Type && x.Flags == y.Flags && x.Stream == y.Stream && x.Res == y.Res && bytes.Equal(x.Body, y.Body)
	})
}

func item(from int, f api.Frame) weave.Item {
	f.Pad = none
	return weave.Item{From: from, F: f}
}

func blockOf(from int, f api.Frame, l ...api.Field) weave.Item {
	x := item(from, f)
	x.Block, x.Fields = true, l
	return x
}

func field(name, value string) api.Field { return api.Field{Name: name, Value: value} }

// ab is a block of which each way has its bytes: a, then b.
func ab(from int) weave.Item {
	return blockOf(from, api.Frame{Type: api.Headers, Stream: 1}, field("a", ""), field("b", ""))
}

const abBytes = "\x40\x01a\x00\x40\x01b\x00"

func data(n int) weave.Item {
	return item(client, api.Frame{Type: api.Data, Stream: 1, Data: make([]byte, n)})
}

func ping() weave.Item {
	return item(server, api.Frame{Type: api.Ping, Data: []byte("12345678")})
}

// right are items of each type.
func right() []weave.Item {
	return []weave.Item{
		ab(client), ab(server), data(0), data(9), ping(),
		item(client, api.Frame{Type: api.Data, Flags: 247, Stream: most, Data: []byte("x")}),
		item(client, api.Frame{Type: api.Priority, Flags: 255, Stream: 3, Weight: 255, Parent: most, Alone: true}),
		item(server, api.Frame{Type: api.Reset, Stream: 1, Code: 1<<32 - 1}),
		item(server, api.Frame{Type: api.Settings, Settings: []api.Setting{{Id: 1, Value: 2}, {Id: 65535, Value: 1<<32 - 1}}}),
		item(server, api.Frame{Type: api.Settings, Flags: 255}),
		item(client, api.Frame{Type: api.Ping, Flags: padded, Data: make([]byte, 8)}), // here that bit means nothing
		item(client, api.Frame{Type: api.Goaway, Last: most, Code: 7, Data: []byte("why")}),
		item(client, api.Frame{Type: api.Window, Step: most}),
		item(client, api.Frame{Type: api.Window, Stream: 5}),
		item(client, api.Frame{Type: 10, Flags: 255, Stream: 8, Data: []byte("x")}),
		item(client, api.Frame{Type: 255}),
		blockOf(client, api.Frame{Type: api.Headers, Flags: 255 - whole - padded, Stream: most, Weight: 7, Parent: 9, Alone: true}, field("", "")),
		blockOf(client, api.Frame{Type: api.Headers, Stream: 1}),
		blockOf(server, api.Frame{Type: api.Promise, Flags: 1, Stream: 1, Promised: most}, api.Field{Name: "\x00", Value: "B", Never: true}),
		blockOf(client, api.Frame{Type: api.Promise, Stream: 2}),
	}
}

// bad are items that are not right.
func bad() []weave.Item {
	l := []weave.Item{
		{}, {Block: true}, {F: api.Frame{Pad: none}},
		item(client, api.Frame{Type: api.Preface}), item(client, api.Frame{Type: 256}), item(client, api.Frame{Type: api.Data}),
		item(client, api.Frame{Type: api.Data, Flags: padded, Stream: 1}),
		item(client, api.Frame{Type: api.Ping}), item(client, api.Frame{Type: api.Window, Step: most + 1}), item(client, api.Frame{Type: api.Window, Flags: -1}),
		item(client, api.Frame{Type: api.Headers, Stream: 1}), item(client, api.Frame{Type: api.Headers, Flags: whole, Stream: 1}),
		item(client, api.Frame{Type: api.Promise, Flags: whole, Stream: 1}), item(client, api.Frame{Type: api.Continue, Flags: whole, Stream: 1}),
		blockOf(client, api.Frame{Type: api.Continue, Stream: 1}), blockOf(client, api.Frame{Type: api.Continue, Flags: whole, Stream: 1}),
		blockOf(client, api.Frame{Type: api.Data, Stream: 1}), blockOf(client, api.Frame{Type: api.Ping, Data: make([]byte, 8)}), blockOf(client, api.Frame{Type: 77}), blockOf(client, api.Frame{Type: api.Preface}),
		blockOf(client, api.Frame{Type: api.Headers, Flags: whole, Stream: 1}), blockOf(client, api.Frame{Type: api.Headers, Flags: padded, Stream: 1}),
		blockOf(client, api.Frame{Type: api.Headers, Stream: 0}), blockOf(client, api.Frame{Type: api.Headers, Stream: most + 1}),
		blockOf(client, api.Frame{Type: api.Headers, Stream: 1, Data: []byte{130}}), blockOf(client, api.Frame{Type: api.Headers, Stream: 1, Weight: 1}),
		blockOf(client, api.Frame{Type: api.Headers, Stream: 1, Promised: 2}), blockOf(client, api.Frame{Type: api.Promise, Stream: 1, Promised: most + 1}),
		blockOf(client, api.Frame{Type: api.Headers, Flags: 256, Stream: 1}), blockOf(client, api.Frame{Type: api.Headers, Flags: -5, Stream: 1}), blockOf(client, api.Frame{Type: api.Headers, Flags: math.MinInt, Stream: 1}),
	}
	for _, x := range right() {
		for _, from := range []int{-1, 2, math.MaxInt, math.MinInt} {
			y := x
			y.From = from
			l = append(l, y)
		}
		for _, pad := range []int{0, 1, -2, 256, math.MinInt} {
			y := x
			y.F.Pad = pad
			l = append(l, y)
		}
		if !x.Block {
			x.Fields = []api.Field{{}}
			l = append(l, x)
		}
	}
	return l
}

func TestP52Right(t *testing.T) {
	for _, x := range right() {
		if !weave.Right(x) {
			t.Error("not right:", x)
		}
	}
	empty := ping()
	empty.Fields = []api.Field{}
	other := ab(client)
	other.F.Data = []byte{}
	if !weave.Right(empty) || !weave.Right(other) {
		t.Error("an empty list is not a nil one")
	}
	for _, x := range bad() {
		if weave.Right(x) {
			t.Error("right:", x)
		}
	}
}

// weaves says which frames come of items, in ways.
func weaves(t *testing.T, l []weave.Item, ways []weave.Way, want ...api.Raw) {
	t.Helper()
	got, e := weave.Weave(l, ways)
	if e != api.OK || !same(got, want) {
		t.Errorf("%v: %+v\nwant %+v", e, got, want)
	}
}

func items(l ...weave.Item) []weave.Item { return l }

func ways(l ...weave.Way) []weave.Way { return l }

func TestP52WeavePlainly(t *testing.T) {
	weaves(t, nil, nil)
	weaves(t, nil, ways(weave.Way{Pad: 5}))
	for _, w := range [][]weave.Way{nil, {}, {{Pad: -1}}, {{Pad: math.MinInt}, {Pad: -2}}} {
		weaves(t, items(ab(client), ping(), ab(client), ab(server), data(2)), w,
			raw(client, api.Headers, whole, 1, abBytes), raw(server, api.Ping, 0, 0, "12345678"), raw(client, api.Headers, whole, 1, "\xbf\xbe"), // each side has a table of its own
			raw(server, api.Headers, whole, 1, abBytes), raw(client, api.Data, 0, 1, "\x00\x00"))
	}
	// Any bits but those that ways set stay as they are.
	weaves(t, items(item(client, api.Frame{Type: api.Ping, Flags: padded, Data: make([]byte, 8)}), blockOf(client, api.Frame{Type: api.Headers, Flags: 147, Stream: 7})), nil,
		raw(client, api.Ping, padded, 0, "\x00\x00\x00\x00\x00\x00\x00\x00"), raw(client, api.Headers, 147|whole, 7, ""))
}

func TestP52WeaveParts(t *testing.T) {
	parts := func(l ...int) []weave.Way { return ways(weave.Way{Parts: l, Pad: none}) }
	first := func(body string) api.Raw { return raw(client, api.Headers, 0, 1, body) }
	next := func(flags int, body string) api.Raw { return raw(client, api.Continue, flags, 1, body) }
	weaves(t, items(ab(client)), parts(1, 1), first("\x40"), next(0, "\x01"), next(whole, abBytes[2:]))
	weaves(t, items(ab(client)), parts(3), first(abBytes[:3]), next(whole, abBytes[3:]))
	weaves(t, items(ab(client)), parts(8), first(abBytes), next(whole, ""))
	weaves(t, items(ab(client)), parts(0, -1, 7, 0, 2, 5), first(""), next(0, ""), next(0, abBytes[:7]), next(0, ""), next(0, abBytes[7:]), next(0, ""), next(whole, ""))
	weaves(t, items(ab(client)), parts(math.MinInt, math.MaxInt), first(""), next(0, abBytes), next(whole, ""))
	// What else a frame says stands in the first one; just the last one has END_HEADERS, and others than blocks are not cut.
	x := blockOf(client, api.Frame{Type: api.Headers, Flags: api.FlagWeighed | api.FlagEnd, Stream: 9, Weight: 5, Parent: 3, Alone: true}, field("a", ""))
	weaves(t, items(x, data(3)), parts(1), raw(client, api.Headers, api.FlagWeighed|api.FlagEnd, 9, "\x80\x00\x00\x03\x05\x40"), raw(client, api.Continue, whole, 9, "\x01a\x00"), raw(client, api.Data, 0, 1, "\x00\x00\x00"))
	x = blockOf(server, api.Frame{Type: api.Promise, Stream: 9, Promised: 4}, field("a", ""))
	weaves(t, items(x), parts(1), raw(server, api.Promise, 0, 9, "\x00\x00\x00\x04\x40"), raw(server, api.Continue, whole, 9, "\x01a\x00"))
}

func TestP52WeavePads(t *testing.T) {
	pad := func(n int) weave.Way { return weave.Way{Pad: n} }
	zeros := func(n int) string { return string(make([]byte, n)) }
	weaves(t, items(ab(client), ping(), data(1)), ways(pad(0)), raw(client, api.Headers, whole|padded, 1, "\x00"+abBytes), raw(server, api.Ping, 0, 0, "12345678"), raw(client, api.Data, padded, 1, "\x00\x00"))
	weaves(t, items(ab(client), data(1)), ways(pad(255)), raw(client, api.Headers, whole|padded, 1, "\xff"+abBytes+zeros(255)), raw(client, api.Data, padded, 1, "\xff"+zeros(256)))
	weaves(t, items(ab(client)), ways(weave.Way{Parts: []int{3}, Pad: 2}), raw(client, api.Headers, padded, 1, "\x02"+abBytes[:3]+"\x00\x00"), raw(client, api.Continue, whole, 1, abBytes[3:]))
	x := blockOf(server, api.Frame{Type: api.Promise, Flags: 2, Stream: 9, Promised: 4})
	weaves(t, items(x), ways(pad(1)), raw(server, api.Promise, 2|whole|padded, 9, "\x01\x00\x00\x00\x04\x00"))
	for _, y := range right() {
		got, e := weave.Weave(items(y), ways(pad(3)))
		is := y.Block || y.F.Type == api.Data
		if e != api.OK || len(got) != 1 || is != (got[0].Flags&padded != y.F.Flags&padded) {
			t.Error(y, got, e)
		}
	}
}

func TestP52WeaveFields(t *testing.T) {
	x := blockOf(client, api.Frame{Type: api.Headers, Stream: 1}, field(":method", "GET"), field("a", "b"), api.Field{Name: "a", Value: "b", Never: true}, field(":path", "/"))
	plain := []encoder.Option{{Way: 2}, {Way: 2, NewName: true, ShortName: true, ShortValue: true}}
	weaves(t, items(x, x, x), ways(weave.Way{Sizes: []int{0, 100}, How: plain, Pad: none}, weave.Way{Pad: none}),
		raw(client, api.Headers, whole, 1, "\x20\x3f\x45"+"\x02\x03GET"+"\x00\x81\x1f\x81\x8f"+"\x10\x01a\x01b"+"\x00\x84\xb9\x58\xd3\x3f\x81\x63"),
		raw(client, api.Headers, whole, 1, "\x82"+"\x40\x01a\x01b"+"\x1f\x2f\x01b"+"\x84"),
		raw(client, api.Headers, whole, 1, "\x20\x3f\x45"+"\x02\x03GET"+"\x00\x81\x1f\x81\x8f"+"\x10\x01a\x01b"+"\x00\x84\xb9\x58\xd3\x3f\x81\x63"))
}

func TestP52WeaveInTurn(t *testing.T) {
	w := ways(weave.Way{Pad: 1}, weave.Way{Pad: none}, weave.Way{Pad: 0})
	got, e := weave.Weave(items(data(0), data(0), data(0), data(0), data(0)), w)
	if e != api.OK || len(got) != 5 {
		t.Fatal(got, e)
	}
	for i, n := range []int{2, 0, 1, 2, 0} {
		if len(got[i].Body) != n {
			t.Error(i, got[i])
		}
	}
}

func TestP52WeaveOfNone(t *testing.T) {
	fails := func(l []weave.Item, w []weave.Way) {
		t.Helper()
		if got, e := weave.Weave(l, w); e != api.ErrArg || len(got) > 0 {
			t.Error(l, w, got, e)
		}
	}
	for _, x := range bad() {
		fails(items(x), nil)
		fails(items(ping(), ab(client), x), ways(weave.Way{Pad: 3}))
		fails(items(x, ping()), nil)
	}
	for _, n := range []int{-1, 1 << 31, math.MaxInt, math.MinInt} {
		w := ways(weave.Way{Pad: none}, weave.Way{Sizes: []int{0, n}, Pad: none})
		fails(items(ping(), ab(client)), w)
		weaves(t, items(ab(client), ping()), w, raw(client, api.Headers, whole, 1, abBytes), raw(server, api.Ping, 0, 0, "12345678")) // they are no block's
	}
	for _, n := range []int{256, math.MaxInt} {
		for _, x := range items(ab(client), data(1), ping()) {
			fails(items(x), ways(weave.Way{Pad: n}))
			fails(items(ping(), x), ways(weave.Way{Pad: none}, weave.Way{Pad: n}))
		}
	}
	w := ways(weave.Way{Sizes: []int{1<<31 - 1, 0}, Pad: 255})
	if _, e := weave.Weave(items(ab(client)), w); e != api.OK {
		t.Error(e)
	}
}

// TestP52WeaveLongFrames: a frame has room for just so many bytes.
func TestP52WeaveLongFrames(t *testing.T) {
	const room = 1<<24 - 1
	for _, x := range []struct{ n, pad int }{{room, none}, {room - 1, 0}, {room - 256, 255}} {
		if got, e := weave.Weave(items(data(x.n)), ways(weave.Way{Pad: x.pad})); e != api.OK || len(got) != 1 || len(got[0].Body) != room {
			t.Error(x, e)
		}
		if got, e := weave.Weave(items(ping(), data(x.n+1)), ways(weave.Way{Pad: x.pad})); e != api.ErrArg || len(got) > 0 {
			t.Error(x, e)
		}
	}
	long := blockOf(client, api.Frame{Type: api.Headers, Stream: 1}, field("a", strings.Repeat("x", room)))
	if got, e := weave.Weave(items(long), nil); e != api.ErrArg || len(got) > 0 {
		t.Error(e)
	}
	got, e := weave.Weave(items(long), ways(weave.Way{Parts: []int{room}, Pad: none}))
	if e != api.OK || len(got) != 2 || len(got[0].Body) != room {
		t.Error(e)
	}
}

func TestP52Same(t *testing.T) {
	full := func() weave.Item {
		return weave.Item{From: 1, F: api.Frame{Type: 1, Flags: 2, Stream: 3, Pad: 4, Data: []byte{5}, Settings: []api.Setting{{Id: 6}}, Weight: 7, Parent: 8, Alone: true, Promised: 9, Last: 10, Code: 11, Step: 12}, Block: true, Fields: []api.Field{{Name: "a", Value: "b"}}}
	}
	if !weave.Same(full(), full()) || !weave.Same(weave.Item{}, weave.Item{F: api.Frame{Data: []byte{}, Settings: []api.Setting{}}, Fields: []api.Field{}}) {
		t.Error("not the same")
	}
	for i, change := range []func(*weave.Item){
		func(x *weave.Item) { x.From = 0 },
		func(x *weave.Item) { x.Block = false },
		func(x *weave.Item) { x.Fields = nil },
		func(x *weave.Item) { x.Fields = append(x.Fields, api.Field{}) },
		func(x *weave.Item) { x.Fields[0].Name = "c" },
		func(x *weave.Item) { x.Fields[0].Value = "c" },
		func(x *weave.Item) { x.Fields[0].Never = true },
		func(x *weave.Item) { x.F.Type = 0 },
		func(x *weave.Item) { x.F.Flags = 0 },
		func(x *weave.Item) { x.F.Stream = 0 },
		func(x *weave.Item) { x.F.Pad = 0 },
		func(x *weave.Item) { x.F.Data[0] = 0 },
		func(x *weave.Item) { x.F.Data = nil },
		func(x *weave.Item) { x.F.Settings[0].Value = 1 },
		func(x *weave.Item) { x.F.Settings = nil },
		func(x *weave.Item) { x.F.Weight = 0 },
		func(x *weave.Item) { x.F.Parent = 0 },
		func(x *weave.Item) { x.F.Alone = false },
		func(x *weave.Item) { x.F.Promised = 0 },
		func(x *weave.Item) { x.F.Last = 0 },
		func(x *weave.Item) { x.F.Code = 0 },
		func(x *weave.Item) { x.F.Step = 0 },
	} {
		x := full()
		change(&x)
		if weave.Same(x, full()) || weave.Same(full(), x) || !weave.Same(x, x) {
			t.Error(i, "is the same")
		}
	}
}

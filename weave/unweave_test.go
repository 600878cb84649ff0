package weave_test

import (
	"bytes"
	"math"
	"math/rand"
	"slices"
	"strings"
	"testing"

	"stickler/api"
	"stickler/encoder"
	"stickler/weave"
)

func sameItems(a, b []weave.Item) bool { return slices.EqualFunc(a, b, weave.Same) }

// unweaves says whose frames they are.
func unweaves(t *testing.T, l []api.Raw, want ...weave.Item) {
	t.Helper()
	got, e := weave.Unweave(l)
	if e != api.OK || !sameItems(got, want) {
		t.Errorf("%v: %+v\nwant %+v", e, got, want)
	}
}

func raws(l ...api.Raw) []api.Raw { return l }

func TestP52Unweave(t *testing.T) {
	unweaves(t, nil)
	unweaves(t, raws(raw(client, api.Headers, whole, 1, abBytes), raw(server, api.Ping, 0, 0, "12345678"), raw(client, api.Headers, whole, 1, "\xbf\xbe"), raw(server, api.Headers, whole, 1, abBytes)),
		ab(client), ping(), ab(client), ab(server))
	unweaves(t, raws(raw(client, api.Headers, 0, 1, abBytes[:3]), raw(client, api.Continue, 0, 1, ""), raw(client, api.Continue, whole, 1, abBytes[3:])), ab(client))
	// Padding goes, whatever its bytes are; so do bits that no frame is wrong by.
	unweaves(t, raws(raw(client, api.Headers, padded, 1, "\x02"+abBytes[:3]+"zz"), raw(client, api.Continue, 255, 1, abBytes[3:]), raw(client, api.Data, padded, 1, "\x03\x00\x00zzz"), raw(client, api.Data, 0, 1, "\x00")), ab(client), data(2), data(1))
	unweaves(t, raws(raw(client, api.Data, 255, 1, "\x00x"), raw(client, api.Ping, 255, 0, "12345678"), raw(client, 77, 255, 0, "\x01x")),
		item(client, api.Frame{Type: api.Data, Flags: 247, Stream: 1, Data: []byte("x")}), item(client, api.Frame{Type: api.Ping, Flags: 255, Data: []byte("12345678")}), item(client, api.Frame{Type: 77, Flags: 255, Data: []byte("\x01x")}))
	unweaves(t, raws(raw(client, api.Headers, 255, 9, "\x01\x80\x00\x00\x03\x05\x82z"), raw(server, api.Promise, 255, 9, "\x00\x80\x00\x00\x04\x82")),
		blockOf(client, api.Frame{Type: api.Headers, Flags: 243, Stream: 9, Weight: 5, Parent: 3, Alone: true}, field(":method", "GET")), blockOf(server, api.Frame{Type: api.Promise, Flags: 243, Stream: 9, Promised: 4}, field(":method", "GET")))
	// Sizes are no part of what is said.
	unweaves(t, raws(raw(client, api.Headers, whole, 1, "\x20\x3f\xe1\x1f"+abBytes)), ab(client))
	// Between the parts of one side's block the other side may send.
	unweaves(t, raws(raw(client, api.Headers, 0, 1, abBytes[:3]), raw(server, api.Headers, 0, 1, abBytes), raw(client, api.Continue, whole, 1, abBytes[3:]), raw(server, api.Continue, whole, 1, ""), raw(server, api.Ping, 0, 0, "12345678")), ab(client), ab(server), ping())
	res := raw(client, api.Data, 0, 1, "\x00")
	res.Res = true
	unweaves(t, raws(res), data(1))
}

func TestP52UnweaveOfNone(t *testing.T) {
	good := raw(client, api.Ping, 0, 0, "12345678")
	begun := raw(client, api.Headers, 0, 1, "\x82")
	ends := raw(client, api.Continue, whole, 1, "")
	fails := func(want api.Errno, l ...api.Raw) {
		t.Helper()
		if got, e := weave.Unweave(l); e != want || len(got) > 0 {
			t.Error(l, got, e)
		}
	}
	for _, from := range []int{-1, 2, math.MaxInt, math.MinInt} {
		fails(api.ErrArg, raw(from, api.Ping, 0, 0, "12345678"))
		fails(api.ErrArg, good, raw(from, 256, 0, 0, ""), raw(client, 256, 0, 0, ""))
		fails(api.ErrForm, good, raw(client, 256, 0, 0, ""), raw(from, 256, 0, 0, "")) // the first one that is wrong tells
		fails(api.ErrArg, begun, raw(from, api.Ping, 0, 0, "12345678"))
	}
	for _, wrong := range []api.Raw{
		raw(client, api.Preface, 0, 0, ""), raw(client, 256, 0, 0, ""), raw(client, 77, -1, 0, ""), raw(client, 77, 256, 0, ""), raw(client, 77, 0, most+1, ""), raw(client, 77, 0, 0, string(make([]byte, 1<<24))),
		raw(client, api.Ping, 0, 0, "1234567"), raw(client, api.Ping, 0, 1, "12345678"), raw(client, api.Data, 0, 0, ""), raw(client, api.Data, padded, 1, "\x01"), raw(client, api.Headers, whole|padded, 1, ""),
		ends, raw(client, api.Continue, 0, 1, ""),
		raw(client, api.Headers, whole, 1, "\x80"), raw(client, api.Headers, whole, 1, "\xbe"), raw(client, api.Headers, whole, 1, "\x40"), raw(client, api.Promise, whole, 1, "\x00\x00\x00\x02\x80"), raw(client, api.Headers, whole, 1, "\x82\x20"),
		begun, raw(client, api.Promise, 0, 1, "\x00\x00\x00\x02"),
	} {
		fails(api.ErrForm, wrong)
		fails(api.ErrForm, good, wrong)
		if wrong.Flags&whole != 0 || !slices.Contains([]int{api.Headers, api.Promise}, wrong.Type) {
			fails(api.ErrForm, wrong, good)
		}
	}
	// Nothing of the same side stands between the parts of a block.
	for _, l := range [][]api.Raw{{begun, good, ends}, {begun, begun, ends}, {begun, raw(client, api.Continue, whole, 3, "")}, {begun, raw(server, api.Continue, whole, 1, "")}, {begun, ends, ends}, {begun, raw(client, 77, 0, 0, ""), ends}, {begun, raw(client, api.Continue, 0, 1, "")}} {
		fails(api.ErrForm, l...)
		for i := range l {
			l[i].From = 1 - l[i].From
		}
		fails(api.ErrForm, l...)
	}
	fails(api.ErrForm, begun, raw(server, api.Headers, 0, 1, ""), ends)
}

// TestP52UnweaveLongBlocks: a block may have 2^20 bytes, and no more.
func TestP52UnweaveLongBlocks(t *testing.T) {
	const room = 1 << 20
	// Ahead of the value stand the name, and four bytes that tell its length.
	x := func(n int) weave.Item {
		return blockOf(client, api.Frame{Type: api.Headers, Stream: 1}, field("a", strings.Repeat("x", n-7)))
	}
	for _, parts := range [][]int{nil, {room}, {1, 2, room - 3}, {room / 2}} {
		l, e := weave.Weave(items(x(room), ping()), ways(weave.Way{Parts: parts, Pad: 9}))
		if n := bytesOf(l[:len(l)-1]); e != api.OK || n != room+10 {
			t.Fatal(n, e)
		}
		unweaves(t, l, x(room), ping())
		l, _ = weave.Weave(items(x(room+1)), ways(weave.Way{Parts: parts, Pad: none}))
		if got, e := weave.Unweave(l); e != api.ErrForm || len(got) > 0 {
			t.Error(parts, e)
		}
	}
}

// TestP52Tables: at first each side's table has room for just 4096.
func TestP52Tables(t *testing.T) {
	for _, from := range []int{client, server} {
		x := func(n int) weave.Item {
			return blockOf(from, api.Frame{Type: api.Headers, Stream: 1}, field("a", strings.Repeat("x", n-33)))
		}
		l, e := weave.Weave(items(x(4096), x(4096)), nil)
		if e != api.OK || len(l) != 2 || string(l[1].Body) != "\xbe" {
			t.Error(l[1], e)
		}
		unweaves(t, l, x(4096), x(4096))
		l, e = weave.Weave(items(x(4097), x(4097)), nil)
		if e != api.OK || len(l) != 2 || !bytes.Equal(l[0].Body, l[1].Body) {
			t.Error(l[1], e)
		}
		l[1].Body = []byte{190}
		if got, e := weave.Unweave(l); e != api.ErrForm || len(got) > 0 {
			t.Error(got, e)
		}
	}
}

func bytesOf(l []api.Raw) int {
	n := 0
	for _, r := range l {
		n += len(r.Body)
	}
	return n
}

func someText(random *rand.Rand) string {
	b := make([]byte, random.Intn(6))
	for i := range b {
		b[i] = "abAB\x00\xff:-"[random.Intn(8)]
	}
	return string(b)
}

func someItem(random *rand.Rand) weave.Item {
	l := right()
	x := l[random.Intn(len(l))]
	if random.Intn(2) == 0 { // most of what ways change is blocks
		x = blockOf(random.Intn(2), api.Frame{Type: api.Headers, Flags: random.Intn(4), Stream: 1 + random.Intn(9)})
	}
	if !x.Block {
		return x
	}
	x.Fields = nil
	for range random.Intn(8) {
		f := []api.Field{field(":method", "GET"), field(":path", someText(random)), field("cookie", someText(random)), field(someText(random), someText(random)), field("a", "b"), field("long", strings.Repeat(someText(random), 200))}[random.Intn(6)]
		f.Never = random.Intn(5) == 0
		x.Fields = append(x.Fields, f)
	}
	return x
}

func someWay(random *rand.Rand) weave.Way {
	w := weave.Way{Pad: random.Intn(12) - 4}
	for range random.Intn(3) {
		w.Sizes = append(w.Sizes, []int{0, 40, 100, 4096, 100000, 1<<31 - 1}[random.Intn(6)])
	}
	for range random.Intn(4) {
		flip := func() bool { return random.Intn(2) == 0 }
		w.How = append(w.How, encoder.Option{Way: random.Intn(4), NewName: flip(), ShortName: flip(), ShortValue: flip()})
	}
	for range random.Intn(4) {
		w.Parts = append(w.Parts, random.Intn(30)-3)
	}
	return w
}

// TestP52ThereAndBack: in whatever ways it is woven, it is unwoven as it was.
func TestP52ThereAndBack(t *testing.T) {
	random := rand.New(rand.NewSource(52))
	for range 2000 {
		var l []weave.Item
		var w []weave.Way
		for range random.Intn(12) {
			l = append(l, someItem(random))
		}
		for range random.Intn(5) {
			w = append(w, someWay(random))
		}
		woven, e := weave.Weave(l, w)
		if e != api.OK {
			t.Fatal(l, w, e)
		}
		got, e := weave.Unweave(woven)
		if e != api.OK || !sameItems(got, l) {
			t.Fatal(l, w, got, e)
		}
		for _, x := range got {
			if !weave.Right(x) {
				t.Fatal("not right:", x)
			}
		}
	}
}

// TestP52OfAnyFrames: whatever frames are given, they are some items', which may be, or none's.
func TestP52OfAnyFrames(t *testing.T) {
	random := rand.New(rand.NewSource(521))
	found := 0
	for range 20000 {
		var l []api.Raw
		for range 1 + random.Intn(3) {
			b := make([]byte, random.Intn(12))
			for i := range b {
				b[i] = "\x00\x01\x02\x03\x40\x82\xbea"[random.Intn(8)]
			}
			l = append(l, raw(random.Intn(2), random.Intn(12)-1, random.Intn(258)-1, random.Intn(3), string(b)))
		}
		got, e := weave.Unweave(l)
		if e != api.OK {
			if e != api.ErrForm || len(got) > 0 {
				t.Fatal(l, got, e)
			}
			continue
		}
		found++
		woven, e := weave.Weave(got, nil)
		if e != api.OK || len(woven) != len(got) {
			t.Fatal(l, got, e)
		}
		unweaves(t, woven, got...)
	}
	if found < 1000 {
		t.Error("too few:", found)
	}
}

// TestP52Memory: what is handed in isn't changed, and what is answered is new.
func TestP52Memory(t *testing.T) {
	random := rand.New(rand.NewSource(520))
	for range 300 {
		var l []weave.Item
		for range 1 + random.Intn(8) {
			l = append(l, someItem(random))
		}
		w := ways(someWay(random), someWay(random))
		had := slices.Clone(l)
		for i := range had {
			had[i].F.Data, had[i].F.Settings, had[i].Fields = bytes.Clone(l[i].F.Data), slices.Clone(l[i].F.Settings), slices.Clone(l[i].Fields)
		}
		first, _ := weave.Weave(l, w)
		second, _ := weave.Weave(l, w)
		for i := range first {
			clear(first[i].Body)
			if !same(first[i+1:], second[i+1:]) {
				t.Fatal("two bodies are one:", l, w)
			}
		}
		if again, _ := weave.Weave(l, w); !same(again, second) || !sameItems(l, had) {
			t.Fatal("changed by Weave:", l, w)
		}
		got, _ := weave.Unweave(second)
		for i := range got {
			clear(got[i].F.Data)
			clear(got[i].F.Settings)
			clear(got[i].Fields)
			if !sameItems(got[i+1:], had[i+1:]) {
				t.Fatal("two lists are one:", l, w)
			}
		}
		if again, e := weave.Unweave(second); e != api.OK || !sameItems(again, had) {
			t.Fatal("changed by Unweave:", l, w)
		}
	}
}

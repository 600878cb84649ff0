package cutter_test

import (
	"bytes"
	"math"
	"math/rand"
	"slices"
	"testing"

	"stickler/api"
	"stickler/cutter"
	"stickler/preface"
)

func sameRaw(a, b api.Raw) bool {
	return a.From == b.From && a.Type == b.Type && a.Flags == b.Flags && a.Stream == b.Stream && a.Res == b.Res && bytes.Equal(a.Body, b.Body)
}

func same(a, b []api.Raw) bool { return slices.EqualFunc(a, b, sameRaw) }

// wire is a frame's bytes, by the document alone.
func wire(r api.Raw) []byte {
	if r.Type == api.Preface {
		return bytes.Clone(r.Body)
	}
	n, stream := len(r.Body), r.Stream
	if r.Res {
		stream += 1 << 31
	}
	return append([]byte{byte(n >> 16), byte(n >> 8), byte(n), byte(r.Type), byte(r.Flags),
		byte(stream >> 24), byte(stream >> 16), byte(stream >> 8), byte(stream)}, r.Body...)
}

func feed(t *testing.T, c *cutter.Cutter, side int, b []byte) []api.Raw {
	t.Helper()
	l, e := c.Feed(api.Chunk{From: side, B: b})
	if e != api.OK {
		t.Fatal(e)
	}
	return l
}

func left(t *testing.T, c *cutter.Cutter, client, server int) {
	t.Helper()
	if c.Left(0) != client || c.Left(1) != server {
		t.Errorf("Left: %d, %d, not %d, %d", c.Left(0), c.Left(1), client, server)
	}
}

func TestP121Example(t *testing.T) {
	c := cutter.New()
	if l := feed(t, c, 1, []byte{0, 0, 0, 4, 1, 0, 0, 0, 0}); !same(l, []api.Raw{{From: 1, Type: 4, Flags: 1}}) {
		t.Error(l)
	}
	if l := feed(t, c, 1, []byte{0, 0, 1}); len(l) != 0 {
		t.Error(l)
	}
	left(t, c, 0, 3)
}

func TestP121Preface(t *testing.T) {
	// Whatever the client's first 24 bytes are, they are one frame.
	for _, first := range [][]byte{preface.Text(), make([]byte, 24), bytes.Repeat([]byte{255}, 24), []byte("GET / HTTP/1.1\r\nHost: a\r\n")[:24]} {
		for cut := range 25 {
			c := cutter.New()
			l := feed(t, c, 0, first[:cut])
			if cut < 24 {
				left(t, c, cut, 0)
			}
			l = append(l, feed(t, c, 0, first[cut:])...)
			if !same(l, []api.Raw{{Type: -1, Body: first}}) {
				t.Errorf("%q cut at %d: %v", first, cut, l)
			}
			left(t, c, 0, 0)
		}
	}
}

func TestP121NoServersPreface(t *testing.T) {
	c := cutter.New()
	// PRI * HTT is a head of 0x505249 bytes, of the type 32.
	if l := feed(t, c, 1, preface.Text()); len(l) != 0 {
		t.Error(l)
	}
	left(t, c, 0, 24)
}

func TestP121HeadFields(t *testing.T) {
	for _, r := range []api.Raw{
		{From: 1},
		{From: 1, Type: 255, Flags: 255, Stream: 1<<31 - 1, Res: true, Body: []byte{1}},
		{From: 1, Type: 8, Flags: 4, Stream: 0x01020304, Body: []byte{0, 0, 0, 0}},
		{From: 1, Type: 1, Flags: 2, Res: true, Body: make([]byte, 0x0102)},
		{From: 1, Type: 0, Stream: 1 << 30, Body: make([]byte, 1<<24-1)},
	} {
		c := cutter.New()
		if l := feed(t, c, 1, wire(r)); !same(l, []api.Raw{r}) {
			t.Errorf("%d frames, not %+v", len(l), r)
		}
		left(t, c, 0, 0)
		r.From = 0
		if l := feed(t, c, 0, append(preface.Text(), wire(r)...)); len(l) != 2 || l[0].Type != -1 || !sameRaw(l[1], r) {
			t.Errorf("%d frames, not %+v", len(l), r)
		}
	}
}

func some(r *rand.Rand, side int) []api.Raw {
	var l []api.Raw
	if side == 0 {
		l = append(l, api.Raw{Type: -1, Body: make([]byte, 24)})
		r.Read(l[0].Body)
	}
	for range r.Intn(6) {
		b := make([]byte, max(0, r.Intn(14)-3))
		r.Read(b)
		l = append(l, api.Raw{From: side, Type: r.Intn(256), Flags: r.Intn(256), Stream: r.Intn(1 << 31), Res: r.Intn(2) == 1, Body: b})
	}
	return l
}

// ends are how many frames have ended behind each count of bytes, and how many bytes belong to none of these.
func ends(l []api.Raw) (frames, rest []int) {
	frames, rest = []int{0}, []int{0}
	for i, r := range l {
		for k := range wire(r) {
			frames, rest = append(frames, i), append(rest, k+1)
		}
		frames[len(frames)-1], rest[len(rest)-1] = i+1, 0
	}
	return frames, rest
}

func TestP122Cuts(t *testing.T) {
	r := rand.New(rand.NewSource(1))
	for round := range 600 {
		var l, got [2][]api.Raw
		var b [2][]byte
		var frames, rest [2][]int
		var at [2]int
		for side := range 2 {
			l[side] = some(r, side)
			for _, one := range l[side] {
				b[side] = append(b[side], wire(one)...)
			}
			frames[side], rest[side] = ends(l[side])
		}
		c := cutter.New()
		for at[0] < len(b[0]) || at[1] < len(b[1]) {
			side := r.Intn(2)
			n := min(r.Intn(2+round%40), len(b[side])-at[side])
			if round%3 == 0 {
				n = min(1, len(b[side])-at[side])
			}
			new := feed(t, c, side, b[side][at[side]:at[side]+n])
			at[side] += n
			got[side] = append(got[side], new...)
			if len(got[side]) != frames[side][at[side]] {
				t.Fatalf("behind %d bytes of %d: %d frames", at[side], side, len(got[side]))
			}
			left(t, c, rest[0][at[0]], rest[1][at[1]])
		}
		for side := range 2 {
			if !same(got[side], l[side]) {
				t.Fatalf("%v, not %v", got[side], l[side])
			}
			all := feed(t, cutter.New(), side, b[side])
			if !same(all, l[side]) {
				t.Fatalf("at once: %v, not %v", all, l[side])
			}
		}
	}
}

func TestP122Empty(t *testing.T) {
	c := cutter.New()
	for range 2 {
		for side := range 2 {
			if l := feed(t, c, side, nil); len(l) != 0 {
				t.Error(l)
			}
		}
	}
	left(t, c, 0, 0)
	// A body of no bytes waits for nothing more, and one of a byte waits.
	if l := feed(t, c, 1, append(wire(api.Raw{}), wire(api.Raw{})...)); len(l) != 2 {
		t.Error(l)
	}
	if l := feed(t, c, 1, []byte{0, 0, 1, 9, 0, 0, 0, 0, 0}); len(l) != 0 {
		t.Error(l)
	}
	left(t, c, 0, 9)
	if l := feed(t, c, 1, nil); len(l) != 0 {
		t.Error(l)
	}
	left(t, c, 0, 9)
	if l := feed(t, c, 1, []byte{7}); !same(l, []api.Raw{{From: 1, Type: 9, Body: []byte{7}}}) {
		t.Error(l)
	}
	left(t, c, 0, 0)
}

func TestP122Arguments(t *testing.T) {
	c := cutter.New()
	feed(t, c, 0, []byte{1, 2})
	feed(t, c, 1, []byte{0, 0, 0, 4, 1, 0, 0, 0})
	for _, from := range []int{-1, 2, math.MinInt, math.MaxInt} {
		if l, e := c.Feed(api.Chunk{From: from, B: make([]byte, 99)}); len(l) != 0 || e != api.ErrArg {
			t.Errorf("Feed of %d: %v, %d", from, l, e)
		}
	}
	left(t, c, 2, 8)
	if l := feed(t, c, 1, []byte{0}); len(l) != 1 {
		t.Error(l)
	}
}

func TestP122Nobody(t *testing.T) {
	var none *cutter.Cutter
	for _, from := range []int{0, 1} {
		if l, e := none.Feed(api.Chunk{From: from, B: make([]byte, 99)}); len(l) != 0 || e != api.ErrNil {
			t.Error(l, e)
		}
		if n := none.Left(from); n != 0 {
			t.Error(n)
		}
	}
	var c cutter.Cutter
	if l := feed(t, &c, 0, append(preface.Text(), 0, 0)); !same(l, []api.Raw{{Type: -1, Body: preface.Text()}}) {
		t.Error(l)
	}
	if l := feed(t, &c, 1, make([]byte, 10)); !same(l, []api.Raw{{From: 1}}) {
		t.Error(l)
	}
	left(t, &c, 2, 1)
}

func TestP122NewMemory(t *testing.T) {
	one := api.Raw{From: 1, Type: 9, Body: []byte{1, 2, 3}}
	b := append(wire(one), wire(one)...)
	b = append(b, wire(one)[:11]...)
	c := cutter.New()
	l := feed(t, c, 1, b)
	clear(b)
	_ = append(l[0].Body, 9, 9, 9, 9, 9, 9, 9, 9, 9, 9)
	if !same(l, []api.Raw{one, one}) {
		t.Error(l)
	}
	clear(l[1].Body)
	if l := feed(t, c, 1, []byte{3}); !same(l, []api.Raw{one}) {
		t.Error(l)
	}
}

func TestP123OtherSides(t *testing.T) {
	c := cutter.New()
	feed(t, c, 0, []byte{1, 2})
	feed(t, c, 1, []byte{1, 2, 3})
	for _, side := range []int{-1, 2, math.MinInt, math.MaxInt} {
		if n := c.Left(side); n != 0 {
			t.Errorf("Left of %d: %d", side, n)
		}
	}
	left(t, c, 2, 3)
}

func TestP2Apart(t *testing.T) {
	one, two := cutter.New(), cutter.New()
	feed(t, one, 0, make([]byte, 30))
	left(t, two, 0, 0)
	if l := feed(t, two, 0, make([]byte, 24)); len(l) != 1 || l[0].Type != -1 {
		t.Error(l)
	}
}

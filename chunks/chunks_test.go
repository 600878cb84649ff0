package chunks_test

import (
	"math"
	"math/rand"
	"slices"
	"testing"

	"stickler/api"
	"stickler/chunks"
)

func of(from int, s string) api.Chunk { return api.Chunk{From: from, B: []byte(s)} }

func same(a, b []api.Chunk) bool {
	return slices.EqualFunc(a, b, func(x, y api.Chunk) bool { return x.From == y.From && string(x.B) == string(y.B) })
}

func cloned(l []api.Chunk) []api.Chunk {
	var all []api.Chunk
	for _, c := range l {
		all = append(all, of(c.From, string(c.B)))
	}
	return all
}

func TestP101Right(t *testing.T) {
	for _, c := range []struct {
		l     []api.Chunk
		right bool
	}{
		{nil, true},
		{[]api.Chunk{{}}, true},
		{[]api.Chunk{of(0, "a"), of(1, "b"), of(1, ""), of(0, "")}, true},
		{[]api.Chunk{of(2, "a")}, false},
		{[]api.Chunk{of(-1, "a")}, false},
		{[]api.Chunk{of(2, "")}, false},
		{[]api.Chunk{of(0, "a"), of(1, "b"), of(2, "c")}, false},
		{[]api.Chunk{of(math.MinInt, "c"), of(0, "a"), of(1, "b")}, false},
		{[]api.Chunk{of(0, "a"), of(math.MaxInt, "c"), of(1, "b")}, false},
	} {
		if chunks.Right(c.l) != c.right {
			t.Errorf("Right(%v): %v", c.l, !c.right)
		}
	}
}

func TestP101Bytes(t *testing.T) {
	l := []api.Chunk{of(1, "ab"), of(0, "c"), of(1, ""), of(7, "x"), of(1, "d"), of(0, "ef"), of(-7, "y")}
	before := cloned(l)
	for _, c := range []struct {
		side int
		s    string
	}{{0, "cef"}, {1, "abd"}, {7, "x"}, {-7, "y"}, {2, ""}, {-1, ""}, {math.MaxInt, ""}} {
		b := chunks.Bytes(l, c.side)
		if string(b) != c.s {
			t.Errorf("Bytes of %d: %s", c.side, b)
		}
		clear(b)
		if b := chunks.Bytes(nil, c.side); len(b) != 0 {
			t.Errorf("Bytes of %d in none: %s", c.side, b)
		}
	}
	if !same(l, before) {
		t.Error("what was handed in was changed:", l)
	}
}

func TestP101Total(t *testing.T) {
	if n := chunks.Total(nil); n != 0 {
		t.Error(n)
	}
	if n := chunks.Total([]api.Chunk{of(0, "abc"), of(1, ""), of(9, "de"), of(-1, "f")}); n != 6 {
		t.Error(n)
	}
}

func TestP102Join(t *testing.T) {
	for _, c := range []struct{ l, joined []api.Chunk }{
		{nil, nil},
		{[]api.Chunk{of(0, ""), of(1, ""), {}}, nil},
		{[]api.Chunk{of(0, "a")}, []api.Chunk{of(0, "a")}},
		{[]api.Chunk{of(0, "a"), of(0, "bc")}, []api.Chunk{of(0, "abc")}},
		{[]api.Chunk{of(0, "a"), of(1, "b"), of(0, "c")}, []api.Chunk{of(0, "a"), of(1, "b"), of(0, "c")}},
		{[]api.Chunk{of(0, "a"), of(1, ""), of(0, "c")}, []api.Chunk{of(0, "ac")}},
		{[]api.Chunk{of(1, ""), of(1, "a"), of(1, ""), of(1, "b"), of(0, ""), of(0, "c"), of(0, "d"), of(0, "")}, []api.Chunk{of(1, "ab"), of(0, "cd")}},
		{[]api.Chunk{of(7, "a"), of(7, "b"), of(-7, "c"), of(-7, "d")}, []api.Chunk{of(7, "ab"), of(-7, "cd")}},
	} {
		before := cloned(c.l)
		if l := chunks.Join(c.l); !same(l, c.joined) {
			t.Errorf("Join(%v): %v", c.l, l)
		}
		if l := chunks.Cut(c.l, nil); !same(l, c.joined) {
			t.Errorf("Cut(%v) without sizes: %v", c.l, l)
		}
		if l := chunks.Cut(c.l, []int{}); !same(l, c.joined) {
			t.Errorf("Cut(%v) without sizes: %v", c.l, l)
		}
		if !same(c.l, before) {
			t.Error("what was handed in was changed:", c.l)
		}
	}
}

func TestP103Cut(t *testing.T) {
	two := []api.Chunk{of(0, "abc"), of(1, "d")}
	for _, c := range []struct {
		l      []api.Chunk
		sizes  []int
		pieces []api.Chunk
	}{
		{two, []int{2, 1}, []api.Chunk{of(0, "ab"), of(0, "c"), of(1, "d")}},
		{two, []int{1}, []api.Chunk{of(0, "a"), of(0, "b"), of(0, "c"), of(1, "d")}},
		{two, []int{3}, two},
		{two, []int{math.MaxInt}, two},
		{two, []int{0}, []api.Chunk{of(0, "a"), of(0, "b"), of(0, "c"), of(1, "d")}},
		{two, []int{-5, 2}, []api.Chunk{of(0, "a"), of(0, "bc"), of(1, "d")}},
		{two, []int{math.MinInt, math.MaxInt}, []api.Chunk{of(0, "a"), of(0, "bc"), of(1, "d")}},
		{nil, []int{1}, nil},
		{[]api.Chunk{of(0, ""), {}}, []int{1}, nil},
		// Chunks of one side that follow each other aren't put together.
		{[]api.Chunk{of(0, "a"), of(0, "b")}, []int{2}, []api.Chunk{of(0, "a"), of(0, "b")}},
		// A chunk without bytes takes no size.
		{[]api.Chunk{of(0, ""), of(0, "abc"), of(1, ""), of(1, "defg")}, []int{1, 2, 3}, []api.Chunk{of(0, "a"), of(0, "bc"), of(1, "def"), of(1, "g")}},
		// A size that is not used up is not gone on with.
		{[]api.Chunk{of(9, "abcd"), of(9, "efgh")}, []int{3, 2}, []api.Chunk{of(9, "abc"), of(9, "d"), of(9, "efg"), of(9, "h")}},
		{[]api.Chunk{of(0, "abcdef"), of(1, "gh")}, []int{4, 1, 9}, []api.Chunk{of(0, "abcd"), of(0, "e"), of(0, "f"), of(1, "gh")}},
	} {
		before, sizes := cloned(c.l), slices.Clone(c.sizes)
		if l := chunks.Cut(c.l, c.sizes); !same(l, c.pieces) {
			t.Errorf("Cut(%v, %v): %v", c.l, c.sizes, l)
		}
		if !same(c.l, before) || !slices.Equal(c.sizes, sizes) {
			t.Error("what was handed in was changed:", c.l, c.sizes)
		}
	}
}

// cutByBytes is the cut as it is told, byte by byte.
func cutByBytes(l []api.Chunk, sizes []int) []api.Chunk {
	var pieces []api.Chunk
	turn := 0
	for _, c := range l {
		left := 0
		for _, b := range c.B {
			if left == 0 {
				left = max(1, sizes[turn%len(sizes)])
				turn++
				pieces = append(pieces, api.Chunk{From: c.From})
			}
			last := &pieces[len(pieces)-1]
			last.B = append(last.B, b)
			left--
		}
	}
	return pieces
}

func TestP103Any(t *testing.T) {
	r := rand.New(rand.NewSource(1))
	for range 2000 {
		var l []api.Chunk
		for range r.Intn(6) {
			b := make([]byte, r.Intn(12))
			r.Read(b)
			l = append(l, api.Chunk{From: r.Intn(3), B: b})
		}
		sizes := []int{r.Intn(7) - 1}
		for range r.Intn(4) {
			sizes = append(sizes, r.Intn(9)-1)
		}
		if got, want := chunks.Cut(l, sizes), cutByBytes(l, sizes); !same(got, want) {
			t.Fatalf("Cut(%v, %v): %v", l, sizes, got)
		}
	}
}

func TestP103NewMemory(t *testing.T) {
	l := []api.Chunk{of(0, "abcd"), of(0, "ef"), of(1, "g")}
	before := cloned(l)
	for _, sizes := range [][]int{nil, {1}, {2}, {9}} {
		pieces := chunks.Cut(l, sizes)
		want := cloned(pieces)
		for i := range pieces {
			_ = append(pieces[i].B, "!!"...)
		}
		if !same(pieces, want) {
			t.Errorf("pieces of %v share memory: %v", sizes, pieces)
		}
		for i := range pieces {
			clear(pieces[i].B)
		}
		if !same(l, before) {
			t.Fatal("what was handed in was changed:", l)
		}
	}
}

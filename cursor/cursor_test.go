package cursor_test

import (
	"bytes"
	"math"
	"testing"

	"stickler/api"
	"stickler/cursor"
)

func at(t *testing.T, c *cursor.Cursor, at, left int) {
	t.Helper()
	if c.At() != at || c.Left() != left {
		t.Errorf("At %d, Left %d, not %d, %d", c.At(), c.Left(), at, left)
	}
}

func TestP21HowFar(t *testing.T) {
	c := cursor.New([]byte{1, 2, 3, 4, 5})
	at(t, c, 0, 5)
	c.Number(2)
	at(t, c, 2, 3)
	c.Bytes(1)
	at(t, c, 3, 2)
	c.Rest()
	at(t, c, 5, 0)
	at(t, cursor.New(nil), 0, 0)
	at(t, cursor.New([]byte{}), 0, 0)
}

func TestP21OwnCopy(t *testing.T) {
	b := []byte{1, 2, 3}
	c := cursor.New(b)
	b[0], b[1], b[2] = 9, 9, 9
	if n, _ := c.Number(1); n != 1 {
		t.Error(n)
	}
	if got := c.Rest(); !bytes.Equal(got, []byte{2, 3}) {
		t.Error(got)
	}
	if !bytes.Equal(b, []byte{9, 9, 9}) {
		t.Error("what was handed in was changed:", b)
	}
}

func TestP21NobodyMade(t *testing.T) {
	for _, c := range []*cursor.Cursor{nil, {}, cursor.New(nil)} {
		for range 2 {
			at(t, c, 0, 0)
			if n, e := c.Number(1); n != 0 || e != api.ErrShort {
				t.Error(n, e)
			}
			if n, e := c.Number(5); n != 0 || e != api.ErrArg {
				t.Error(n, e)
			}
			if b, e := c.Bytes(0); len(b) != 0 || e != api.OK {
				t.Error(b, e)
			}
			if b, e := c.Bytes(1); len(b) != 0 || e != api.ErrShort {
				t.Error(b, e)
			}
			if b, e := c.Bytes(-1); len(b) != 0 || e != api.ErrArg {
				t.Error(b, e)
			}
			if b := c.Rest(); len(b) != 0 {
				t.Error(b)
			}
		}
	}
}

func TestP22Number(t *testing.T) {
	c := cursor.New([]byte{1, 2, 3, 0, 0, 1, 4, 255, 255, 255, 255})
	for _, w := range []struct {
		size, n int
		e       api.Errno
		at      int
	}{
		{2, 258, api.OK, 2},
		{0, 0, api.ErrArg, 2},
		{5, 0, api.ErrArg, 2},
		{-1, 0, api.ErrArg, 2},
		{1, 3, api.OK, 3},
		{3, 1, api.OK, 6},
		{1, 4, api.OK, 7},
		{4, 1<<32 - 1, api.OK, 11},
		{1, 0, api.ErrShort, 11},
		{5, 0, api.ErrArg, 11},
	} {
		n, e := c.Number(w.size)
		if n != w.n || e != w.e {
			t.Errorf("Number(%d): %d, %d", w.size, n, e)
		}
		at(t, c, w.at, 11-w.at)
	}
}

func TestP22Short(t *testing.T) {
	c := cursor.New([]byte{1, 2, 3})
	if n, e := c.Number(2); n != 258 || e != api.OK {
		t.Error(n, e)
	}
	if n, e := c.Number(2); n != 0 || e != api.ErrShort {
		t.Error(n, e)
	}
	if b, e := c.Bytes(2); len(b) != 0 || e != api.ErrShort {
		t.Error(b, e)
	}
	at(t, c, 2, 1)
	if b := c.Rest(); !bytes.Equal(b, []byte{3}) {
		t.Error(b)
	}
	if b := c.Rest(); len(b) != 0 {
		t.Error(b)
	}
}

func TestP22Bytes(t *testing.T) {
	c := cursor.New([]byte{1, 2, 3, 4})
	for _, w := range []struct {
		n  int
		b  []byte
		e  api.Errno
		at int
	}{
		{-1, nil, api.ErrArg, 0},
		{math.MinInt, nil, api.ErrArg, 0},
		{5, nil, api.ErrShort, 0},
		{math.MaxInt, nil, api.ErrShort, 0},
		{0, nil, api.OK, 0},
		{3, []byte{1, 2, 3}, api.OK, 3},
		{2, nil, api.ErrShort, 3},
		{1, []byte{4}, api.OK, 4},
		{0, nil, api.OK, 4},
		{1, nil, api.ErrShort, 4},
		{-1, nil, api.ErrArg, 4},
	} {
		b, e := c.Bytes(w.n)
		if !bytes.Equal(b, w.b) || e != w.e {
			t.Errorf("Bytes(%d): %v, %d", w.n, b, e)
		}
		at(t, c, w.at, 4-w.at)
	}
}

func TestP22NewMemory(t *testing.T) {
	c := cursor.New([]byte{1, 2, 3, 4})
	b, _ := c.Bytes(2)
	b[0], b[1] = 9, 9
	_ = append(b, 9, 9)
	if rest := c.Rest(); !bytes.Equal(rest, []byte{3, 4}) {
		t.Error("taken bytes share the memory of those ahead:", rest)
	}
}

func TestP2Apart(t *testing.T) {
	b := []byte{1, 2, 3}
	one, two := cursor.New(b), cursor.New(b)
	one.Number(3)
	at(t, two, 0, 3)
	if n, e := two.Number(3); n != 0x010203 || e != api.OK {
		t.Error(n, e)
	}
}

func TestP1AnyNumbers(t *testing.T) {
	for _, n := range []int{math.MinInt, -1 << 32, -1, 0, 5, 1 << 31, 1 << 32, math.MaxInt} {
		for _, c := range []*cursor.Cursor{nil, {}, cursor.New([]byte{1, 2, 3, 4})} {
			left := c.Left()
			if k, e := c.Number(n); k != 0 || e != api.ErrArg {
				t.Errorf("Number(%d): %d, %d", n, k, e)
			}
			if b, e := c.Bytes(n); len(b) != 0 || (n < 0) != (e == api.ErrArg) {
				t.Errorf("Bytes(%d): %v, %d", n, b, e)
			}
			at(t, c, 0, left)
		}
	}
}

package bitrow_test

import (
	"bytes"
	"math"
	"strconv"
	"strings"
	"testing"

	"stickler/api"
	"stickler/bitrow"
)

func TestP51Bit(t *testing.T) {
	r := bitrow.Of([]byte{0b10110010, 0b00000001})
	for i, want := range "1011001000000001" {
		if r.Left() != 16-i {
			t.Fatalf("Left at %d: %d", i, r.Left())
		}
		if b, ok := r.Bit(); b != int(want-'0') || !ok {
			t.Fatalf("Bit %d: %d, %v", i, b, ok)
		}
	}
	for range 2 {
		if b, ok := r.Bit(); b != 0 || ok || r.Left() != 0 {
			t.Error(b, ok, r.Left())
		}
	}
}

func TestP51Bits(t *testing.T) {
	r := bitrow.Of([]byte{95, 0x12, 0x34, 0x56, 0x78, 0xff})
	for _, c := range []struct {
		n, v int
		e    api.Errno
		left int
	}{
		{-1, 0, api.ErrArg, 48},
		{33, 0, api.ErrArg, 48},
		{math.MinInt, 0, api.ErrArg, 48},
		{math.MaxInt, 0, api.ErrArg, 48},
		{0, 0, api.OK, 48},
		{3, 2, api.OK, 45},
		{5, 31, api.OK, 40},
		{32, 0x12345678, api.OK, 8},
		{32, 0, api.ErrShort, 8},
		{9, 0, api.ErrShort, 8},
		{33, 0, api.ErrArg, 8},
		{8, 255, api.OK, 0},
		{0, 0, api.OK, 0},
		{1, 0, api.ErrShort, 0},
		{-1, 0, api.ErrArg, 0},
	} {
		v, e := r.Bits(c.n)
		if v != c.v || e != c.e || r.Left() != c.left {
			t.Errorf("Bits(%d): %d, %d; left %d", c.n, v, e, r.Left())
		}
	}
	r = bitrow.Of([]byte{255, 255, 255, 255})
	if v, e := r.Bits(32); v != 1<<32-1 || e != api.OK {
		t.Error(v, e)
	}
}

func TestP51OwnCopy(t *testing.T) {
	b := []byte{255}
	r := bitrow.Of(b)
	b[0] = 0
	if v, _ := r.Bits(8); v != 255 || b[0] != 0 {
		t.Error(v, b)
	}
}

func TestP51NobodyMade(t *testing.T) {
	for _, r := range []*bitrow.Reader{nil, {}, bitrow.Of(nil), bitrow.Of([]byte{})} {
		for range 2 {
			if r.Left() != 0 {
				t.Error(r.Left())
			}
			if b, ok := r.Bit(); b != 0 || ok {
				t.Error(b, ok)
			}
			if v, e := r.Bits(0); v != 0 || e != api.OK {
				t.Error(v, e)
			}
			if v, e := r.Bits(1); v != 0 || e != api.ErrShort {
				t.Error(v, e)
			}
			if v, e := r.Bits(33); v != 0 || e != api.ErrArg {
				t.Error(v, e)
			}
		}
	}
}

func TestP52Put(t *testing.T) {
	var w bitrow.Row
	for _, c := range []struct {
		v, n int
		e    api.Errno
		len  int
		b    []byte
	}{
		{0, 0, api.OK, 0, nil},
		{0, -1, api.ErrArg, 0, nil},
		{-1, -1, api.ErrArg, 0, nil},
		{0, 33, api.ErrArg, 0, nil},
		{1 << 40, 33, api.ErrArg, 0, nil},
		{math.MaxInt, math.MaxInt, api.ErrArg, 0, nil},
		{math.MinInt, math.MinInt, api.ErrArg, 0, nil},
		{1, 0, api.ErrRange, 0, nil},
		{-1, 0, api.ErrRange, 0, nil},
		{8, 3, api.ErrRange, 0, nil},
		{-1, 3, api.ErrRange, 0, nil},
		{2, 3, api.OK, 3, []byte{95}},
		{2, 1, api.ErrRange, 3, []byte{95}},
		{0, 0, api.OK, 3, []byte{95}},
		{0, 5, api.OK, 8, []byte{64}},
		{0, 1, api.OK, 9, []byte{64, 127}},
		{1<<32 - 1, 32, api.OK, 41, []byte{64, 127, 255, 255, 255, 255}},
		{1 << 32, 32, api.ErrRange, 41, []byte{64, 127, 255, 255, 255, 255}},
		{0x01020304, 32, api.OK, 73, []byte{64, 127, 255, 255, 255, 128, 129, 1, 130, 127}},
		{math.MinInt, 32, api.ErrRange, 73, []byte{64, 127, 255, 255, 255, 128, 129, 1, 130, 127}},
	} {
		e := w.Put(c.v, c.n)
		if e != c.e || w.Len() != c.len || !bytes.Equal(w.Bytes(), c.b) {
			t.Errorf("Put(%d, %d): %d, %d, %v", c.v, c.n, e, w.Len(), w.Bytes())
		}
	}
}

func TestP52Nil(t *testing.T) {
	var none *bitrow.Row
	for _, n := range []int{-1, 0, 1, 33} {
		if e := none.Put(n, n); e != api.ErrNil {
			t.Errorf("Put(%d): %d", n, e)
		}
	}
	if none.Len() != 0 || len(none.Bytes()) != 0 {
		t.Error(none.Len(), none.Bytes())
	}
	var empty bitrow.Row
	if empty.Len() != 0 || len(empty.Bytes()) != 0 {
		t.Error(empty.Len(), empty.Bytes())
	}
}

func TestP52NewMemory(t *testing.T) {
	var w bitrow.Row
	w.Put(5, 4)
	b := w.Bytes()
	b[0] = 0
	if got := w.Bytes(); !bytes.Equal(got, []byte{0x5f}) {
		t.Error(got)
	}
	b = w.Bytes()
	w.Put(0, 4)
	if !bytes.Equal(b, []byte{0x5f}) || !bytes.Equal(w.Bytes(), []byte{0x50}) {
		t.Error(b, w.Bytes())
	}
}

// TestP5ThereAndBack writes bits in many cuts, and holds them against a text of noughts and ones.
func TestP5ThereAndBack(t *testing.T) {
	for step := 1; step <= 37; step++ {
		var w bitrow.Row
		var text string
		for i := range 60 {
			n := i * step % 33
			v := i * 2654435761 % (1 << n)
			if e := w.Put(v, n); e != api.OK {
				t.Fatalf("Put(%d, %d): %d", v, n, e)
			}
			if n > 0 {
				digits := strconv.FormatInt(int64(v), 2)
				text += strings.Repeat("0", n-len(digits)) + digits
			}
		}
		if w.Len() != len(text) {
			t.Fatal(w.Len(), len(text))
		}
		for len(text)%8 != 0 {
			text += "1"
		}
		r := bitrow.Of(w.Bytes())
		for i := range len(text) {
			if b, ok := r.Bit(); b != int(text[i]-'0') || !ok {
				t.Fatalf("bit %d of %s: %d, %v", i, text, b, ok)
			}
		}
		if r.Left() != 0 {
			t.Fatal(r.Left())
		}
		r = bitrow.Of(w.Bytes())
		for i := range 60 {
			n := i * step % 33
			if v, e := r.Bits(n); v != i*2654435761%(1<<n) || e != api.OK {
				t.Fatalf("Bits(%d): %d, %d", n, v, e)
			}
		}
	}
}

func TestP2Apart(t *testing.T) {
	var one, two bitrow.Row
	one.Put(1, 1)
	two.Put(0, 1)
	if !bytes.Equal(one.Bytes(), []byte{255}) || !bytes.Equal(two.Bytes(), []byte{127}) {
		t.Error(one.Bytes(), two.Bytes())
	}
	b := one.Bytes()
	r, s := bitrow.Of(b), bitrow.Of(b)
	r.Bits(8)
	if s.Left() != 8 {
		t.Error(s.Left())
	}
}

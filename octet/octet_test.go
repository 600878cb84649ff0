package octet_test

import (
	"bytes"
	"math"
	"testing"

	"stickler/api"
	"stickler/octet"
)

// odd are numbers that no call may stumble over.
var odd = []int{math.MinInt, -1 << 32, -1, 0, 1, 4, 5, 1<<31 - 1, 1 << 31, 1<<32 - 1, 1 << 32, math.MaxInt}

func TestP11Put(t *testing.T) {
	for _, c := range []struct {
		b       []byte
		n, size int
		want    []byte
		e       api.Errno
	}{
		{nil, 258, 2, []byte{1, 2}, api.OK},
		{[]byte{7}, 258, 2, []byte{7, 1, 2}, api.OK},
		{[]byte{7, 8}, 0, 4, []byte{7, 8, 0, 0, 0, 0}, api.OK},
		{nil, 0x01020304, 4, []byte{1, 2, 3, 4}, api.OK},
		{nil, 0, 1, []byte{0}, api.OK},
		{nil, 255, 1, []byte{255}, api.OK},
		{nil, 256, 1, nil, api.ErrRange},
		{nil, 1<<16 - 1, 2, []byte{255, 255}, api.OK},
		{nil, 1 << 16, 2, nil, api.ErrRange},
		{nil, 1<<24 - 1, 3, []byte{255, 255, 255}, api.OK},
		{nil, 1 << 24, 3, nil, api.ErrRange},
		{nil, 1<<32 - 1, 4, []byte{255, 255, 255, 255}, api.OK},
		{nil, 1 << 32, 4, nil, api.ErrRange},
		{[]byte{7}, -1, 4, nil, api.ErrRange},
		{[]byte{7}, 1, 0, nil, api.ErrArg},
		{[]byte{7}, 1, 5, nil, api.ErrArg},
		{[]byte{7}, 1, -1, nil, api.ErrArg},
		{nil, -1, 0, nil, api.ErrArg},
		{nil, 1 << 40, 5, nil, api.ErrArg},
	} {
		b, e := octet.Put(c.b, c.n, c.size)
		if e != c.e || !bytes.Equal(b, c.want) {
			t.Errorf("Put(%v, %d, %d): %v, %d", c.b, c.n, c.size, b, e)
		}
	}
}

func TestP11PutIsNewMemory(t *testing.T) {
	b := []byte{1, 2, 3, 4}
	got, _ := octet.Put(b[:2], 0x0809, 2)
	if !bytes.Equal(b, []byte{1, 2, 3, 4}) {
		t.Error("what stands behind the argument was changed:", b)
	}
	got[0] = 9
	if b[0] != 1 {
		t.Error("the answer is the argument's memory")
	}
	one, _ := octet.Put(b[:1:1], 5, 1)
	two, _ := octet.Put(one, 6, 1)
	three, _ := octet.Put(one, 7, 1)
	if !bytes.Equal(two, []byte{1, 5, 6}) || !bytes.Equal(three, []byte{1, 5, 7}) {
		t.Error("two answers share memory:", two, three)
	}
}

func TestP11Get(t *testing.T) {
	for _, c := range []struct {
		b       []byte
		size, n int
		e       api.Errno
	}{
		{[]byte{0, 1, 0, 9}, 3, 256, api.OK},
		{[]byte{9, 1}, 1, 9, api.OK},
		{[]byte{1, 2}, 2, 258, api.OK},
		{[]byte{1, 2, 3, 4}, 4, 0x01020304, api.OK},
		{[]byte{255, 255, 255, 255, 1}, 4, 1<<32 - 1, api.OK},
		{[]byte{1, 2, 3}, 4, 0, api.ErrShort},
		{nil, 1, 0, api.ErrShort},
		{[]byte{}, 4, 0, api.ErrShort},
		{[]byte{1, 2}, 0, 0, api.ErrArg},
		{[]byte{1, 2, 3, 4, 5, 6}, 5, 0, api.ErrArg},
		{nil, -1, 0, api.ErrArg},
		{nil, 5, 0, api.ErrArg},
	} {
		n, e := octet.Get(c.b, c.size)
		if e != c.e || n != c.n {
			t.Errorf("Get(%v, %d): %d, %d", c.b, c.size, n, e)
		}
	}
}

func TestP11ThereAndBack(t *testing.T) {
	for size := 1; size <= 4; size++ {
		for n := 0; n < 1<<(8*size); n += 1 + n/7 {
			b, e := octet.Put(nil, n, size)
			if e != api.OK || len(b) != size {
				t.Fatalf("Put(%d, %d): %v, %d", n, size, b, e)
			}
			sum := 0
			for _, c := range b {
				sum = sum*256 + int(c)
			}
			got, e := octet.Get(b, size)
			if sum != n || got != n || e != api.OK {
				t.Fatalf("Get(%v): %d, %d", b, got, e)
			}
		}
	}
}

func TestP12Low(t *testing.T) {
	for _, c := range []struct {
		n, low int
		set    bool
	}{
		{1<<31 + 5, 5, true},
		{5, 5, false},
		{0, 0, false},
		{1<<31 - 1, 1<<31 - 1, false},
		{1 << 31, 0, true},
		{1<<32 - 1, 1<<31 - 1, true},
		{1 << 32, 0, false},
		{1<<32 + 1<<31 + 5, 0, false},
		{-1, 0, false},
		{math.MinInt, 0, false},
		{math.MaxInt, 0, false},
	} {
		if low, set := octet.Low(c.n); low != c.low || set != c.set {
			t.Errorf("Low(%d): %d, %v", c.n, low, set)
		}
	}
}

func TestP12With(t *testing.T) {
	for _, c := range []struct {
		n    int
		set  bool
		want int
		e    api.Errno
	}{
		{5, true, 1<<31 + 5, api.OK},
		{5, false, 5, api.OK},
		{0, true, 1 << 31, api.OK},
		{0, false, 0, api.OK},
		{1<<31 - 1, true, 1<<32 - 1, api.OK},
		{1<<31 - 1, false, 1<<31 - 1, api.OK},
		{1 << 31, true, 0, api.ErrRange},
		{1 << 31, false, 0, api.ErrRange},
		{-1, true, 0, api.ErrRange},
		{-1, false, 0, api.ErrRange},
		{math.MinInt, false, 0, api.ErrRange},
	} {
		if n, e := octet.With(c.n, c.set); n != c.want || e != c.e {
			t.Errorf("With(%d, %v): %d, %d", c.n, c.set, n, e)
		}
	}
}

func TestP13Same(t *testing.T) {
	for _, c := range []struct {
		a, b []byte
		same bool
	}{
		{nil, nil, true},
		{nil, []byte{}, true},
		{[]byte{}, nil, true},
		{[]byte{1, 2}, []byte{1, 2}, true},
		{[]byte{1, 2}, []byte{1, 3}, false},
		{[]byte{1, 2}, []byte{2, 1}, false},
		{[]byte{1, 2}, []byte{1}, false},
		{[]byte{1}, []byte{1, 0}, false},
		{nil, []byte{0}, false},
	} {
		if octet.Same(c.a, c.b) != c.same {
			t.Errorf("Same(%v, %v) is not %v", c.a, c.b, c.same)
		}
	}
}

func TestP1P2AnyNumbers(t *testing.T) {
	for _, n := range odd {
		for _, size := range odd {
			b, e := octet.Put([]byte{1}, n, size)
			c, f := octet.Put([]byte{1}, n, size)
			if !bytes.Equal(b, c) || e != f || e != api.OK && len(b) != 0 {
				t.Errorf("Put(%d, %d): %v, %d; %v, %d", n, size, b, e, c, f)
			}
		}
		k, e := octet.Get([]byte{1, 2, 3}, n)
		l, f := octet.Get([]byte{1, 2, 3}, n)
		if k != l || e != f || e != api.OK && k != 0 {
			t.Errorf("Get(%d): %d, %d; %d, %d", n, k, e, l, f)
		}
	}
}

package head_test

import (
	"bytes"
	"math"
	"testing"

	"stickler/api"
	"stickler/head"
)

func TestP71Put(t *testing.T) {
	for _, c := range []struct {
		h head.Head
		b []byte
	}{
		{head.Head{}, make([]byte, 9)},
		{head.Head{Length: 4, Type: 8, Stream: 1, Res: true}, []byte{0, 0, 4, 8, 0, 128, 0, 0, 1}},
		{head.Head{Length: 0x010203, Type: 4, Flags: 5, Stream: 0x06070809}, []byte{1, 2, 3, 4, 5, 6, 7, 8, 9}},
		{head.Head{Length: 1<<24 - 1, Type: 255, Flags: 255, Stream: 1<<31 - 1}, []byte{255, 255, 255, 255, 255, 127, 255, 255, 255}},
		{head.Head{Length: 1<<24 - 1, Type: 255, Flags: 255, Stream: 1<<31 - 1, Res: true}, bytes.Repeat([]byte{255}, 9)},
		{head.Head{Res: true}, []byte{0, 0, 0, 0, 0, 128, 0, 0, 0}},
	} {
		if !head.Right(c.h) {
			t.Errorf("%+v is not right", c.h)
		}
		if b, e := head.Put(c.h); !bytes.Equal(b, c.b) || e != api.OK {
			t.Errorf("Put(%+v): %v, %d", c.h, b, e)
		}
		if h, e := head.Get(c.b); h != c.h || e != api.OK {
			t.Errorf("Get(%v): %+v, %d", c.b, h, e)
		}
	}
}

func TestP71NotRight(t *testing.T) {
	for _, h := range []head.Head{
		{Length: -1}, {Length: 1 << 24}, {Length: math.MinInt}, {Length: math.MaxInt},
		{Type: -1}, {Type: 256}, {Type: math.MinInt}, {Type: math.MaxInt},
		{Flags: -1}, {Flags: 256}, {Flags: math.MinInt}, {Flags: math.MaxInt},
		{Stream: -1}, {Stream: 1 << 31}, {Stream: 1<<31 + 1}, {Stream: math.MinInt}, {Stream: math.MaxInt},
		{Length: 1 << 32}, {Type: 1 << 32}, {Flags: 1 << 32}, {Stream: 1 << 32},
	} {
		for _, res := range []bool{false, true} {
			h.Res = res
			if head.Right(h) {
				t.Errorf("%+v is right", h)
			}
			if b, e := head.Put(h); len(b) != 0 || e != api.ErrRange {
				t.Errorf("Put(%+v): %v, %d", h, b, e)
			}
		}
	}
}

func TestP71Get(t *testing.T) {
	b := []byte{1, 2, 3, 4, 5, 134, 7, 8, 9, 10, 11}
	want := head.Head{Length: 0x010203, Type: 4, Flags: 5, Stream: 0x06070809, Res: true}
	for n := range len(b) + 1 {
		h, e := head.Get(b[:n])
		if n < 9 && (h != head.Head{} || e != api.ErrShort) {
			t.Errorf("Get of %d bytes: %+v, %d", n, h, e)
		}
		if n >= 9 && (h != want || e != api.OK) {
			t.Errorf("Get of %d bytes: %+v, %d", n, h, e)
		}
	}
	if h, e := head.Get(nil); h != (head.Head{}) || e != api.ErrShort {
		t.Error(h, e)
	}
	if !bytes.Equal(b, []byte{1, 2, 3, 4, 5, 134, 7, 8, 9, 10, 11}) {
		t.Error("what was handed in was changed:", b)
	}
}

func TestP72Of(t *testing.T) {
	r := api.Raw{From: 1, Type: 3, Flags: 7, Stream: 9, Res: true, Body: []byte{1, 2}}
	if h := head.Of(r); h != (head.Head{Length: 2, Type: 3, Flags: 7, Stream: 9, Res: true}) {
		t.Errorf("%+v", h)
	}
	if h := head.Of(api.Raw{}); h != (head.Head{}) {
		t.Errorf("%+v", h)
	}
	// A head of what is no frame is its numbers all the same.
	odd := api.Raw{From: -7, Type: -1, Flags: 300, Stream: math.MinInt, Body: make([]byte, 1<<24)}
	if h := head.Of(odd); h != (head.Head{Length: 1 << 24, Type: -1, Flags: 300, Stream: math.MinInt}) {
		t.Errorf("%+v", h)
	}
}

func TestP72Bytes(t *testing.T) {
	for _, c := range []struct {
		r api.Raw
		b []byte
		e api.Errno
	}{
		{api.Raw{}, make([]byte, 9), api.OK},
		{api.Raw{From: 1, Type: 8, Stream: 1, Res: true, Body: []byte{1, 2, 3, 4}}, []byte{0, 0, 4, 8, 0, 128, 0, 0, 1, 1, 2, 3, 4}, api.OK},
		{api.Raw{From: 9, Type: 255, Flags: 255, Stream: 1<<31 - 1}, []byte{0, 0, 0, 255, 255, 127, 255, 255, 255}, api.OK},
		{api.Raw{Type: -1, Body: []byte("PRI")}, []byte("PRI"), api.OK},
		{api.Raw{Type: -1, Flags: 256, Stream: -1, Res: true, Body: []byte{1}}, []byte{1}, api.OK},
		{api.Raw{Type: -1}, nil, api.OK},
		{api.Raw{Type: -2, Body: []byte{1}}, nil, api.ErrRange},
		{api.Raw{Type: 256, Body: []byte{1}}, nil, api.ErrRange},
		{api.Raw{Flags: -1, Body: []byte{1}}, nil, api.ErrRange},
		{api.Raw{Flags: 256, Body: []byte{1}}, nil, api.ErrRange},
		{api.Raw{Stream: -1, Body: []byte{1}}, nil, api.ErrRange},
		{api.Raw{Stream: 1 << 31, Body: []byte{1}}, nil, api.ErrRange},
	} {
		if b, e := head.Bytes(c.r); !bytes.Equal(b, c.b) || e != c.e {
			t.Errorf("Bytes(%+v): %v, %d", c.r, b, e)
		}
	}
}

func TestP72Long(t *testing.T) {
	body := make([]byte, 1<<24)
	if b, e := head.Bytes(api.Raw{Body: body}); len(b) != 0 || e != api.ErrRange {
		t.Error(len(b), e)
	}
	b, e := head.Bytes(api.Raw{Body: body[1:]})
	if len(b) != 9+1<<24-1 || e != api.OK || !bytes.Equal(b[:4], []byte{255, 255, 255, 0}) {
		t.Error(len(b), e)
	}
	if b, e := head.Bytes(api.Raw{Type: -1, Body: body}); len(b) != 1<<24 || e != api.OK {
		t.Error(len(b), e)
	}
}

func TestP72NewMemory(t *testing.T) {
	for _, kind := range []int{-1, 0} {
		body := make([]byte, 2, 64)
		body[0], body[1] = 1, 2
		b, _ := head.Bytes(api.Raw{Type: kind, Body: body})
		for i := range b {
			b[i] = 9
		}
		_ = append(b, 9, 9)
		if !bytes.Equal(body[:4], []byte{1, 2, 0, 0}) {
			t.Error("what was handed in was changed:", body[:4])
		}
	}
}

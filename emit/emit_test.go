package emit_test

import (
	"bytes"
	"math"
	"math/rand"
	"testing"

	"stickler/api"
	"stickler/emit"
	"stickler/frame"
)

// written are frames, each with the body that says it, with nothing set that is of no account.
var written = []struct {
	f    api.Frame
	body []byte
}{
	{api.Frame{Stream: 1, Pad: -1}, nil},
	{api.Frame{Flags: 0xf7, Stream: 1<<31 - 1, Pad: -1, Data: []byte{8, 9}}, []byte{8, 9}},
	{api.Frame{Flags: 8, Stream: 1, Pad: 0, Data: []byte{9}}, []byte{0, 9}},
	{api.Frame{Flags: 9, Stream: 1, Pad: 2, Data: []byte{9}}, []byte{2, 9, 0, 0}},
	{api.Frame{Flags: 8, Stream: 1, Pad: 255}, append([]byte{255}, make([]byte, 255)...)},
	{api.Frame{Type: 1, Flags: 5, Stream: 3, Pad: -1, Data: []byte{130}}, []byte{130}},
	{api.Frame{Type: 1, Flags: 32, Stream: 3, Pad: -1, Data: []byte{130}, Weight: 255, Parent: 7, Alone: true}, []byte{128, 0, 0, 7, 255, 130}},
	{api.Frame{Type: 1, Flags: 40, Stream: 3, Pad: 1, Data: []byte{6}, Weight: 5, Parent: 0x01020304}, []byte{1, 1, 2, 3, 4, 5, 6, 0}},
	{api.Frame{Type: 2, Flags: 8, Stream: 3, Pad: -1, Weight: 16, Parent: 1<<31 - 1, Alone: true}, []byte{255, 255, 255, 255, 16}},
	{api.Frame{Type: 2, Stream: 3, Pad: -1}, []byte{0, 0, 0, 0, 0}},
	{api.Frame{Type: 3, Stream: 3, Pad: -1, Code: 1<<32 - 1}, []byte{255, 255, 255, 255}},
	{api.Frame{Type: 4, Pad: -1}, nil},
	{api.Frame{Type: 4, Flags: 1, Pad: -1}, nil},
	{api.Frame{Type: 4, Flags: 254, Pad: -1, Settings: []api.Setting{{Id: 65535, Value: 1<<32 - 1}, {Id: 4, Value: 1}}}, []byte{255, 255, 255, 255, 255, 255, 0, 4, 0, 0, 0, 1}},
	{api.Frame{Type: 5, Flags: 4, Stream: 3, Pad: -1, Promised: 1<<31 - 1}, []byte{127, 255, 255, 255}},
	{api.Frame{Type: 5, Flags: 12, Stream: 3, Pad: 2, Promised: 2, Data: []byte{130}}, []byte{2, 0, 0, 0, 2, 130, 0, 0}},
	{api.Frame{Type: 6, Flags: 1, Pad: -1, Data: []byte{1, 2, 3, 4, 5, 6, 7, 8}}, []byte{1, 2, 3, 4, 5, 6, 7, 8}},
	{api.Frame{Type: 7, Pad: -1, Last: 1<<31 - 1, Code: 1<<32 - 2}, []byte{127, 255, 255, 255, 255, 255, 255, 254}},
	{api.Frame{Type: 7, Pad: -1, Last: 3, Code: 1, Data: []byte{9, 10}}, []byte{0, 0, 0, 3, 0, 0, 0, 1, 9, 10}},
	{api.Frame{Type: 8, Pad: -1, Step: 1<<31 - 1}, []byte{127, 255, 255, 255}},
	{api.Frame{Type: 8, Flags: 255, Stream: 3, Pad: -1}, []byte{0, 0, 0, 0}},
	{api.Frame{Type: 9, Flags: 12, Stream: 3, Pad: -1, Data: []byte{4, 5}}, []byte{4, 5}},
	{api.Frame{Type: 10, Flags: 255, Pad: -1, Data: []byte{4, 5}}, []byte{4, 5}},
	{api.Frame{Type: 255, Stream: 7, Pad: -1}, nil},
}

func wire(f api.Frame, body []byte) []byte {
	n := len(body)
	return append([]byte{byte(n >> 16), byte(n >> 8), byte(n), byte(f.Type), byte(f.Flags),
		byte(f.Stream >> 24), byte(f.Stream >> 16), byte(f.Stream >> 8), byte(f.Stream)}, body...)
}

func isZero(r api.Raw) bool {
	return r.From == 0 && r.Type == 0 && r.Flags == 0 && r.Stream == 0 && !r.Res && len(r.Body) == 0
}

func notRight(t *testing.T, f api.Frame) {
	t.Helper()
	if emit.Right(f) {
		t.Errorf("%+v is right", f)
	}
	for from := range 2 {
		if r, e := emit.Raw(f, from); !isZero(r) || e != api.ErrArg {
			t.Errorf("Raw(%+v): %+v, %d", f, r, e)
		}
	}
	if b, e := emit.Bytes(f); len(b) != 0 || e != api.ErrArg {
		t.Errorf("Bytes(%+v): %v, %d", f, b, e)
	}
}

func TestP152Written(t *testing.T) {
	var list []api.Frame
	var all []byte
	for _, c := range written {
		if !emit.Right(c.f) {
			t.Errorf("%+v is not right", c.f)
		}
		for from := range 2 {
			r, e := emit.Raw(c.f, from)
			if e != api.OK || r.From != from || r.Type != c.f.Type || r.Flags != c.f.Flags || r.Stream != c.f.Stream || r.Res || !bytes.Equal(r.Body, c.body) {
				t.Errorf("Raw(%+v): %+v, %d", c.f, r, e)
			}
		}
		if b, e := emit.Bytes(c.f); e != api.OK || !bytes.Equal(b, wire(c.f, c.body)) {
			t.Errorf("Bytes(%+v): %v, %d", c.f, b, e)
		}
		list, all = append(list, c.f), append(all, wire(c.f, c.body)...)
	}
	if b, e := emit.All(list...); e != api.OK || !bytes.Equal(b, all) {
		t.Error("All:", b, e)
	}
}

func TestP152Example(t *testing.T) {
	b, e := emit.Bytes(api.Frame{Type: 6, Pad: -1, Data: make([]byte, 8)})
	if want := append([]byte{0, 0, 8, 6}, make([]byte, 13)...); e != api.OK || !bytes.Equal(b, want) {
		t.Error(b, e)
	}
}

// TestP151Otherwise: a frame that is right, with a word that its type doesn't have, is not.
func TestP151Otherwise(t *testing.T) {
	for _, c := range written {
		one := func(change func(f *api.Frame)) {
			t.Helper()
			f := c.f
			change(&f)
			notRight(t, f)
		}
		kind, weighed := c.f.Type, c.f.Type == 2 || c.f.Type == 1 && c.f.Flags&32 != 0
		for _, n := range []int{-1, 1, math.MinInt, math.MaxInt} {
			if kind != 5 {
				one(func(f *api.Frame) { f.Promised = n })
			}
			if kind != 7 {
				one(func(f *api.Frame) { f.Last = n })
			}
			if kind != 7 && kind != 3 {
				one(func(f *api.Frame) { f.Code = n })
			}
			if kind != 8 {
				one(func(f *api.Frame) { f.Step = n })
			}
			if !weighed {
				one(func(f *api.Frame) { f.Weight = n })
				one(func(f *api.Frame) { f.Parent = n })
			}
			if c.f.Pad < 0 {
				one(func(f *api.Frame) { f.Pad += 1 + max(0, n%100) })
			}
		}
		if !weighed {
			one(func(f *api.Frame) { f.Alone = true })
		}
		if kind != 4 || c.f.Flags&1 != 0 {
			one(func(f *api.Frame) { f.Settings = []api.Setting{{Id: 1, Value: 1}} })
		}
		if kind == 2 || kind == 3 || kind == 4 || kind == 8 {
			one(func(f *api.Frame) { f.Data = []byte{1} })
			one(func(f *api.Frame) { f.Data = make([]byte, 6) })
		}
	}
}

func TestP151Numbers(t *testing.T) {
	for _, c := range written {
		one := func(change func(f *api.Frame)) {
			t.Helper()
			f := c.f
			change(&f)
			notRight(t, f)
		}
		for _, n := range []int{math.MinInt, -1 << 32, -2, 1 << 32, math.MaxInt} {
			one(func(f *api.Frame) { f.Type = n })
			one(func(f *api.Frame) { f.Flags = n })
			one(func(f *api.Frame) { f.Stream = n })
			one(func(f *api.Frame) { f.Pad = n })
			one(func(f *api.Frame) { f.Weight = n })
			one(func(f *api.Frame) { f.Parent = n })
			one(func(f *api.Frame) { f.Promised = n })
			one(func(f *api.Frame) { f.Last = n })
			one(func(f *api.Frame) { f.Code = n })
			one(func(f *api.Frame) { f.Step = n })
			one(func(f *api.Frame) { f.Settings = append([]api.Setting{{Id: 1}}, api.Setting{Id: n}) })
			one(func(f *api.Frame) { f.Settings = append([]api.Setting{{Id: 1}}, api.Setting{Value: n}) })
		}
		one(func(f *api.Frame) { f.Type = -1 })
		one(func(f *api.Frame) { f.Type = 256 })
		one(func(f *api.Frame) { f.Flags = -1 })
		one(func(f *api.Frame) { f.Flags = 256 })
		one(func(f *api.Frame) { f.Stream = -1 })
		one(func(f *api.Frame) { f.Stream = 1 << 31 })
		one(func(f *api.Frame) { f.Pad = 256 })
		one(func(f *api.Frame) { f.Weight = 256 })
		one(func(f *api.Frame) { f.Parent = 1 << 31 })
		one(func(f *api.Frame) { f.Promised = 1 << 31 })
		one(func(f *api.Frame) { f.Last = 1 << 31 })
		one(func(f *api.Frame) { f.Step = 1 << 31 })
	}
}

func TestP151Faults(t *testing.T) {
	for _, f := range []api.Frame{
		{Type: -1, Pad: -1}, {Type: -1, Data: []byte("PRI * HTTP/2.0\r\n\r\nSM\r\n\r\n")}, {Type: -1, Pad: -1, Data: []byte("PRI * HTTP/2.0\r\n\r\nSM\r\n\r\n")},
		{}, {Pad: -1}, {Type: 1, Pad: -1}, {Type: 2, Pad: -1}, {Type: 3, Pad: -1}, {Type: 5, Pad: -1}, {Type: 9, Pad: -1},
		{Type: 4, Stream: 1, Pad: -1}, {Type: 6, Stream: 1, Pad: -1, Data: make([]byte, 8)}, {Type: 7, Stream: 1, Pad: -1},
		{Type: 6, Pad: -1}, {Type: 6, Pad: -1, Data: make([]byte, 7)}, {Type: 6, Pad: -1, Data: make([]byte, 9)},
		{Type: 4, Flags: 1, Pad: -1, Settings: []api.Setting{{}}},
		{Stream: 1, Flags: 8, Pad: -1}, {Stream: 1, Pad: 0}, {Stream: 1, Flags: 8, Pad: -2}, {Type: 10, Flags: 8}, {Type: 9, Flags: 8, Stream: 1},
		{Type: 2, Flags: 8, Stream: 1}, {Type: 4}, {Type: 8},
	} {
		notRight(t, f)
	}
}

func TestP151Length(t *testing.T) {
	data := make([]byte, 1<<24)
	for _, c := range []struct {
		f    api.Frame
		room int
	}{
		{api.Frame{Stream: 1, Pad: -1}, 0},
		{api.Frame{Stream: 1, Flags: 8, Pad: 3}, 4},
		{api.Frame{Stream: 1, Type: 1, Flags: 40, Pad: 0}, 6},
		{api.Frame{Type: 7, Pad: -1}, 8},
		{api.Frame{Type: 99, Pad: -1}, 0},
	} {
		c.f.Data = data[:1<<24-1-c.room]
		if b, e := emit.Bytes(c.f); e != api.OK || len(b) != 9+1<<24-1 || !emit.Right(c.f) {
			t.Errorf("type %d: %d bytes, %d", c.f.Type, len(b), e)
		}
		c.f.Data = data[:1<<24-c.room]
		if b, e := emit.Bytes(c.f); e != api.ErrArg || len(b) != 0 || emit.Right(c.f) {
			t.Errorf("type %d, one byte more: %d bytes, %d", c.f.Type, len(b), e)
		}
	}
	most := (1<<24 - 1) / 6
	f := api.Frame{Type: 4, Pad: -1, Settings: make([]api.Setting, most)}
	if b, e := emit.Bytes(f); e != api.OK || len(b) != 9+6*most {
		t.Error(len(b), e)
	}
	f.Settings = make([]api.Setting, most+1)
	if b, e := emit.Bytes(f); e != api.ErrArg || len(b) != 0 {
		t.Error(len(b), e)
	}
}

// TestP151Any: what any frame says, without a fault, is right, and is written as a frame that says it.
func TestP151Any(t *testing.T) {
	r := rand.New(rand.NewSource(1))
	fine := 0
	for range 60000 {
		body := make([]byte, r.Intn(20))
		r.Read(body)
		if len(body) > 0 && r.Intn(2) == 0 {
			body[0] = byte(r.Intn(20))
		}
		in := api.Raw{From: r.Intn(2), Type: r.Intn(12), Flags: r.Intn(256), Stream: r.Intn(3), Res: true, Body: body}
		f, w, _ := frame.Parse(in)
		if w != (api.Fault{}) {
			continue
		}
		fine++
		out, e := emit.Raw(f, in.From)
		if e != api.OK || !emit.Right(f) || out.From != in.From || out.Res || len(out.Body) != len(body) {
			t.Fatalf("%+v: %+v, %d", f, out, e)
		}
		again, w, e := frame.Parse(out)
		if e != api.OK || w != (api.Fault{}) || !frame.Same(again, f) {
			t.Fatalf("%+v is written as %+v", f, out)
		}
		for _, b := range out.Body[len(out.Body)-max(0, f.Pad):] {
			if b != 0 {
				t.Fatalf("padding of %+v", out)
			}
		}
	}
	if fine < 5000 {
		t.Error("too few frames without a fault:", fine)
	}
}

// TestP151Only: of any frame, right ones are said by the frame that is written, and by no frame are others.
func TestP151Only(t *testing.T) {
	r := rand.New(rand.NewSource(2))
	few := func(l ...int) int { return l[r.Intn(len(l))] }
	right := 0
	for range 200000 {
		f := api.Frame{Type: r.Intn(11), Flags: few(0, 1, 4, 8, 32, 40, 5), Stream: few(0, 1), Pad: few(-1, -1, 0, 2), Data: make([]byte, few(0, 0, 1, 8))}
		for _, n := range []*int{&f.Weight, &f.Parent, &f.Promised, &f.Last, &f.Code, &f.Step} {
			*n = few(0, 0, 0, 0, 0, 0, 0, 0, 1)
		}
		f.Alone = r.Intn(9) == 0
		f.Settings = make([]api.Setting, few(0, 0, 0, 1))
		if emit.Right(f) != allowed(f) {
			t.Fatalf("%+v: Right is %v", f, !allowed(f))
		}
		if allowed(f) {
			right++
		}
	}
	if right < 1000 {
		t.Error("too few right ones:", right)
	}
}

// allowed tells of frames with small numbers whether a frame says them, by the document's list of what stands in which.
func allowed(f api.Frame) bool {
	padded := f.Type <= 1 || f.Type == 5
	weighed := f.Type == 2 || f.Type == 1 && f.Flags&32 != 0
	switch {
	case f.Stream == 0 && f.Type != 4 && f.Type < 6, f.Stream == 0 && f.Type == 9:
		return false
	case f.Stream != 0 && (f.Type == 4 || f.Type == 6 || f.Type == 7):
		return false
	case (f.Pad >= 0) != (padded && f.Flags&8 != 0):
		return false
	case !weighed && (f.Weight != 0 || f.Parent != 0 || f.Alone):
		return false
	case f.Type != 5 && f.Promised != 0, f.Type != 7 && f.Last != 0, f.Type != 7 && f.Type != 3 && f.Code != 0, f.Type != 8 && f.Step != 0:
		return false
	case len(f.Settings) > 0 && (f.Type != 4 || f.Flags&1 != 0):
		return false
	case f.Type == 6:
		return len(f.Data) == 8
	case f.Type == 2 || f.Type == 3 || f.Type == 4 || f.Type == 8:
		return len(f.Data) == 0
	}
	return true
}

func TestP152From(t *testing.T) {
	f := api.Frame{Type: 4, Pad: -1}
	for _, from := range []int{-1, 2, math.MinInt, math.MaxInt} {
		if r, e := emit.Raw(f, from); !isZero(r) || e != api.ErrArg {
			t.Errorf("Raw of %d: %+v, %d", from, r, e)
		}
	}
}

func TestP152All(t *testing.T) {
	fine, bad := api.Frame{Type: 4, Pad: -1}, api.Frame{Type: 4, Stream: 1, Pad: -1}
	if b, e := emit.All(); len(b) != 0 || e != api.OK {
		t.Error(b, e)
	}
	for _, l := range [][]api.Frame{{bad}, {fine, bad}, {bad, fine}, {fine, bad, fine}} {
		if b, e := emit.All(l...); len(b) != 0 || e != api.ErrArg {
			t.Errorf("All(%v): %v, %d", l, b, e)
		}
	}
	two := bytes.Repeat([]byte{0, 0, 0, 4, 0, 0, 0, 0, 0}, 2)
	if b, e := emit.All(fine, fine); !bytes.Equal(b, two) || e != api.OK {
		t.Error(b, e)
	}
}

func TestP152NewMemory(t *testing.T) {
	data := make([]byte, 2, 64)
	data[0], data[1] = 7, 8
	f := api.Frame{Stream: 1, Pad: -1, Data: data}
	r, _ := emit.Raw(f, 0)
	b, _ := emit.Bytes(f)
	clear(r.Body)
	clear(b)
	_, _ = append(r.Body, 9), append(b, 9)
	if !bytes.Equal(data[:3], []byte{7, 8, 0}) {
		t.Error("what was handed in was changed:", data[:3])
	}
}

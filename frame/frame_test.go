package frame_test

import (
	"bytes"
	"math"
	"testing"

	"stickler/api"
	"stickler/frame"
)

var (
	none      = api.Fault{}
	protocol  = api.Fault{Scope: api.OfConn, Code: api.ProtocolError}
	size      = api.Fault{Scope: api.OfConn, Code: api.SizeError}
	streamsOf = api.Fault{Scope: api.OfStream, Code: api.SizeError}
)

func raw(kind, flags, stream int, body ...byte) api.Raw {
	return api.Raw{Type: kind, Flags: flags, Stream: stream, Body: body}
}

func says(t *testing.T, r api.Raw, want api.Frame) {
	t.Helper()
	f, w, e := frame.Parse(r)
	if !frame.Same(f, want) || w != none || e != api.OK {
		t.Errorf("%+v: %+v, %v, %d", r, f, w, e)
	}
}

func wrong(t *testing.T, r api.Raw, want api.Fault) {
	t.Helper()
	f, w, e := frame.Parse(r)
	if !frame.Same(f, api.Frame{}) || w != want || e != api.OK {
		t.Errorf("%+v: %+v, %v, %d, not %v", r, f, w, e, want)
	}
}

func TestP141Arguments(t *testing.T) {
	for _, r := range []api.Raw{
		raw(-1, 0, 0), raw(-1, 0, 0, []byte("PRI * HTTP/2.0\r\n\r\nSM\r\n\r\n")...), raw(-2, 0, 0), raw(256, 0, 0), raw(math.MinInt, 0, 0), raw(math.MaxInt, 0, 0),
		raw(0, -1, 1), raw(0, 256, 1), raw(0, math.MinInt, 1), raw(0, math.MaxInt, 1),
		raw(0, 0, -1), raw(0, 0, 1<<31), raw(0, 0, math.MinInt), raw(0, 0, math.MaxInt),
		raw(0, 0, 1, make([]byte, 1<<24)...), raw(99, 0, 1, make([]byte, 1<<24)...),
		// That it is no frame comes ahead of its faults.
		raw(4, 0, -1, 1), raw(0, 256, 0), raw(6, 0, 1, make([]byte, 1<<24)...),
	} {
		f, w, e := frame.Parse(r)
		if !frame.Same(f, api.Frame{}) || w != none || e != api.ErrArg {
			t.Errorf("type %d, flags %d, stream %d: %+v, %v, %d", r.Type, r.Flags, r.Stream, f, w, e)
		}
	}
	data := make([]byte, 1<<24-1)
	says(t, raw(0, 0, 1<<31-1, data...), api.Frame{Stream: 1<<31 - 1, Pad: -1, Data: data})
	// Who sends it, and Res, are of no account.
	says(t, api.Raw{From: -9, Type: 255, Flags: 255, Res: true}, api.Frame{Type: 255, Flags: 255, Pad: -1})
}

func TestP141Streams(t *testing.T) {
	for kind := range 256 {
		for _, stream := range []int{0, 1, 2, 1<<31 - 1} {
			want := none
			switch kind {
			case 4, 6, 7:
				if stream != 0 {
					want = protocol
				}
			case 0, 1, 2, 3, 5, 9:
				if stream == 0 {
					want = protocol
				}
			}
			lengths := []int{0, 0, 5, 4, 6, 4, 8, 8, 4, 0}
			n := 3
			if kind < len(lengths) {
				n = lengths[kind]
			}
			if _, w, e := frame.Parse(raw(kind, 0, stream, make([]byte, n)...)); w != want || e != api.OK {
				t.Errorf("type %d of the stream %d: %v, %d", kind, stream, w, e)
			}
		}
	}
}

func TestP141Lengths(t *testing.T) {
	for n := range 40 {
		body := make([]byte, n)
		for _, c := range []struct {
			kind, flags, stream int
			fine                bool
			fault               api.Fault
		}{
			{0, 0, 1, true, none},
			{0, 8, 1, n >= 1, streamsOf},
			{1, 0, 1, true, none},
			{1, 8, 1, n >= 1, size},
			{1, 32, 1, n >= 5, size},
			{1, 40, 1, n >= 6, size},
			{1, 0xff, 1, n >= 6, size},
			{1, 0xff &^ 40, 1, true, none},
			{2, 0, 1, n == 5, streamsOf},
			{2, 255, 1, n == 5, streamsOf},
			{3, 0, 1, n == 4, size},
			{3, 255, 1, n == 4, size},
			{4, 0, 0, n%6 == 0, size},
			{4, 254, 0, n%6 == 0, size},
			{4, 1, 0, n == 0, size},
			{4, 255, 0, n == 0, size},
			{5, 0, 1, n >= 4, size},
			{5, 8, 1, n >= 5, size},
			{5, 32, 1, n >= 4, size},
			{6, 0, 0, n == 8, size},
			{6, 1, 0, n == 8, size},
			{7, 0, 0, n >= 8, size},
			{7, 255, 0, n >= 8, size},
			{8, 0, 0, n == 4, size},
			{8, 0, 1, n == 4, size},
			{8, 255, 1, n == 4, size},
			{9, 0, 1, true, none},
			{9, 255, 1, true, none},
			{10, 255, 1, true, none},
			{255, 0, 0, true, none},
		} {
			want := c.fault
			if c.fine {
				want = none
			}
			if _, w, e := frame.Parse(raw(c.kind, c.flags, c.stream, body...)); w != want || e != api.OK {
				t.Errorf("type %d, flags %d, %d bytes: %v, %d", c.kind, c.flags, n, w, e)
			}
		}
	}
}

func TestP141Padding(t *testing.T) {
	for pad := range 256 {
		for n := range 260 {
			for _, c := range []struct {
				kind, flags int
				ahead       []byte
			}{{0, 8, nil}, {1, 8, nil}, {1, 40, make([]byte, 5)}, {5, 8, make([]byte, 4)}} {
				if n > 6 && n != pad-1 && n != pad && n != pad+1 {
					continue
				}
				body := append([]byte{byte(pad)}, c.ahead...)
				body = append(body, make([]byte, n)...)
				f, w, e := frame.Parse(raw(c.kind, c.flags, 1, body...))
				if pad > n && (w != protocol || !frame.Same(f, api.Frame{})) || pad <= n && (w != none || f.Pad != pad || len(f.Data) != n-pad) || e != api.OK {
					t.Fatalf("type %d, padding %d of %d bytes: %+v, %v, %d", c.kind, pad, n, f, w, e)
				}
			}
		}
	}
}

func TestP141Examples(t *testing.T) {
	says(t, raw(0, 8, 1, 2, 7, 0, 0), api.Frame{Flags: 8, Stream: 1, Pad: 2, Data: []byte{7}})
	says(t, raw(0, 8, 1, 3, 7, 0, 0), api.Frame{Flags: 8, Stream: 1, Pad: 3})
	wrong(t, raw(0, 8, 1, 4, 7, 0, 0), protocol)
}

func TestP141Order(t *testing.T) {
	// The stream that must or must not be tells ahead of the length.
	wrong(t, raw(2, 0, 0, 1), protocol)
	wrong(t, raw(3, 0, 0), protocol)
	wrong(t, raw(4, 0, 1, 1), protocol)
	wrong(t, raw(4, 1, 3, 1, 2, 3, 4, 5, 6), protocol)
	wrong(t, raw(6, 0, 1), protocol)
	wrong(t, raw(7, 0, 1), protocol)
	wrong(t, raw(0, 8, 0), protocol)
	wrong(t, raw(1, 40, 0), protocol)
	wrong(t, raw(5, 8, 0), protocol)
	// That it ends too early tells ahead of its padding.
	wrong(t, raw(1, 40, 1, 255, 0, 0, 0, 0), size)
	wrong(t, raw(1, 40, 1, 255), size)
	wrong(t, raw(1, 32, 1, 255), size)
	wrong(t, raw(5, 8, 1, 255, 0, 0, 0), size)
	wrong(t, raw(1, 40, 1, 1, 0, 0, 0, 0, 0), protocol)
	wrong(t, raw(5, 8, 1, 1, 0, 0, 0, 0), protocol)
	wrong(t, raw(0, 8, 1), streamsOf)
}

func TestP142Says(t *testing.T) {
	says(t, raw(0, 0, 1, 8, 9), api.Frame{Stream: 1, Pad: -1, Data: []byte{8, 9}})
	says(t, raw(0, 0xf7, 1, 8, 9), api.Frame{Flags: 0xf7, Stream: 1, Pad: -1, Data: []byte{8, 9}})
	says(t, raw(0, 8, 1, 0, 9), api.Frame{Flags: 8, Stream: 1, Pad: 0, Data: []byte{9}})
	says(t, raw(0, 8, 1, 2, 9, 5, 6), api.Frame{Flags: 8, Stream: 1, Pad: 2, Data: []byte{9}})
	says(t, raw(1, 5, 3, 130), api.Frame{Type: 1, Flags: 5, Stream: 3, Pad: -1, Data: []byte{130}})
	says(t, raw(1, 32, 3, 128, 0, 0, 7, 255, 130), api.Frame{Type: 1, Flags: 32, Stream: 3, Pad: -1, Data: []byte{130}, Weight: 255, Parent: 7, Alone: true})
	says(t, raw(1, 40, 3, 1, 1, 2, 3, 4, 5, 6, 7), api.Frame{Type: 1, Flags: 40, Stream: 3, Pad: 1, Data: []byte{6}, Weight: 5, Parent: 0x01020304})
	says(t, raw(1, 0xd7, 3, 1, 1, 2, 3, 4, 5, 6, 7), api.Frame{Type: 1, Flags: 0xd7, Stream: 3, Pad: -1, Data: []byte{1, 1, 2, 3, 4, 5, 6, 7}})
	says(t, raw(2, 8, 3, 255, 255, 255, 255, 16), api.Frame{Type: 2, Flags: 8, Stream: 3, Pad: -1, Weight: 16, Parent: 1<<31 - 1, Alone: true})
	says(t, raw(2, 32, 3, 127, 255, 255, 254, 0), api.Frame{Type: 2, Flags: 32, Stream: 3, Pad: -1, Parent: 1<<31 - 2})
	says(t, raw(3, 0, 3, 255, 255, 255, 255), api.Frame{Type: 3, Stream: 3, Pad: -1, Code: 1<<32 - 1})
	says(t, raw(3, 9, 3, 0, 0, 0, 8), api.Frame{Type: 3, Flags: 9, Stream: 3, Pad: -1, Code: 8})
	says(t, raw(4, 0, 0), api.Frame{Type: 4, Pad: -1})
	says(t, raw(4, 1, 0), api.Frame{Type: 4, Flags: 1, Pad: -1})
	says(t, raw(4, 8, 0, 0, 4, 255, 255, 255, 255, 0, 4, 0, 0, 0, 1), api.Frame{Type: 4, Flags: 8, Pad: -1, Settings: []api.Setting{{Id: 4, Value: 1<<32 - 1}, {Id: 4, Value: 1}}})
	says(t, raw(5, 4, 3, 255, 255, 255, 255), api.Frame{Type: 5, Flags: 4, Stream: 3, Pad: -1, Promised: 1<<31 - 1})
	says(t, raw(5, 12, 3, 2, 128, 0, 0, 2, 130, 7, 7), api.Frame{Type: 5, Flags: 12, Stream: 3, Pad: 2, Promised: 2, Data: []byte{130}})
	says(t, raw(6, 1, 0, 1, 2, 3, 4, 5, 6, 7, 8), api.Frame{Type: 6, Flags: 1, Pad: -1, Data: []byte{1, 2, 3, 4, 5, 6, 7, 8}})
	says(t, raw(7, 0, 0, 255, 255, 255, 255, 255, 255, 255, 254), api.Frame{Type: 7, Pad: -1, Last: 1<<31 - 1, Code: 1<<32 - 2})
	says(t, raw(7, 8, 0, 0, 0, 0, 3, 0, 0, 0, 1, 9, 10), api.Frame{Type: 7, Flags: 8, Pad: -1, Last: 3, Code: 1, Data: []byte{9, 10}})
	says(t, raw(8, 0, 0, 255, 255, 255, 255), api.Frame{Type: 8, Pad: -1, Step: 1<<31 - 1})
	says(t, raw(8, 8, 3, 0, 0, 0, 0), api.Frame{Type: 8, Flags: 8, Stream: 3, Pad: -1})
	says(t, raw(9, 12, 3, 4, 5), api.Frame{Type: 9, Flags: 12, Stream: 3, Pad: -1, Data: []byte{4, 5}})
	says(t, raw(10, 40, 3, 4, 5), api.Frame{Type: 10, Flags: 40, Stream: 3, Pad: -1, Data: []byte{4, 5}})
	says(t, raw(200, 0, 0), api.Frame{Type: 200, Pad: -1})
}

func TestP142NewMemory(t *testing.T) {
	for _, kind := range []int{0, 1, 6, 9, 10} {
		body := []byte{1, 2, 3, 4, 5, 6, 7, 8}
		stream := 1
		if kind == 6 {
			stream = 0
		}
		f, _, _ := frame.Parse(raw(kind, 0, stream, body...))
		clear(f.Data)
		_ = append(f.Data, 9)
		if !bytes.Equal(body, []byte{1, 2, 3, 4, 5, 6, 7, 8}) {
			t.Error("what was handed in was changed:", body)
		}
	}
}

func TestP143Same(t *testing.T) {
	f := api.Frame{Type: 1, Flags: 2, Stream: 3, Pad: 4, Data: []byte{5}, Settings: []api.Setting{{Id: 6, Value: 7}}, Weight: 8, Parent: 9, Alone: true, Promised: 10, Last: 11, Code: 12, Step: 13}
	g := f
	g.Data, g.Settings = []byte{5}, []api.Setting{{Id: 6, Value: 7}}
	if !frame.Same(f, g) || !frame.Same(api.Frame{}, api.Frame{Data: []byte{}, Settings: []api.Setting{}}) {
		t.Error("not the same")
	}
	for i, change := range []func(*api.Frame){
		func(f *api.Frame) { f.Type++ },
		func(f *api.Frame) { f.Flags-- },
		func(f *api.Frame) { f.Stream = math.MinInt },
		func(f *api.Frame) { f.Pad = -1 },
		func(f *api.Frame) { f.Data = nil },
		func(f *api.Frame) { f.Data = []byte{6} },
		func(f *api.Frame) { f.Data = []byte{5, 0} },
		func(f *api.Frame) { f.Settings = nil },
		func(f *api.Frame) { f.Settings = []api.Setting{{Id: 6, Value: 8}} },
		func(f *api.Frame) { f.Settings = []api.Setting{{Id: 5, Value: 7}} },
		func(f *api.Frame) { f.Settings = append(f.Settings, api.Setting{}) },
		func(f *api.Frame) { f.Weight++ },
		func(f *api.Frame) { f.Parent++ },
		func(f *api.Frame) { f.Alone = false },
		func(f *api.Frame) { f.Promised++ },
		func(f *api.Frame) { f.Last++ },
		func(f *api.Frame) { f.Code++ },
		func(f *api.Frame) { f.Step++ },
	} {
		h := g
		change(&h)
		if frame.Same(f, h) || frame.Same(h, f) {
			t.Errorf("the same behind the change %d: %+v", i, h)
		}
	}
}

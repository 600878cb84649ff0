package block_test

import (
	"bytes"
	"math"
	"math/rand"
	"slices"
	"testing"

	"stickler/api"
	"stickler/block"
	"stickler/frame"
)

func headers(stream, flags int, b ...byte) api.Frame {
	return api.Frame{Type: api.Headers, Stream: stream, Flags: flags, Pad: -1, Data: b}
}

func promise(stream, flags int, b ...byte) api.Frame {
	return api.Frame{Type: api.Promise, Stream: stream, Flags: flags, Pad: -1, Promised: 2, Data: b}
}

func goesOn(stream, flags int, b ...byte) api.Frame {
	return api.Frame{Type: api.Continue, Stream: stream, Flags: flags, Pad: -1, Data: b}
}

// add wants what the frame comes to, and that what is answered has memory of its own.
func add(t *testing.T, a *block.Assembly, f, want api.Frame, is bool, e api.Errno) {
	t.Helper()
	was := f
	was.Data, was.Settings = slices.Clone(f.Data), slices.Clone(f.Settings)
	takes := a.Takes(f)
	if takes != (e != api.ErrForm && e != api.ErrNil) {
		t.Errorf("Takes(%v): %v", f, takes)
	}
	got, ok, err := a.Add(f)
	if !frame.Same(got, want) || ok != is || err != e {
		t.Errorf("Add(%v): %v, %v, %d, want %v, %v, %d", f, got, ok, err, want, is, e)
	}
	if !frame.Same(f, was) {
		t.Errorf("Add(%v) has changed it: %v", was, f)
	}
	for i := range f.Data { // it is the caller's again
		f.Data[i] ^= 255
	}
	for i := range f.Settings {
		f.Settings[i].Id++
	}
	if !frame.Same(got, want) {
		t.Errorf("Add(%v) has answered memory that was handed in", was)
	}
}

func more(t *testing.T, a *block.Assembly, f api.Frame) {
	t.Helper()
	add(t, a, f, api.Frame{}, false, api.OK)
}

func refused(t *testing.T, a *block.Assembly, f api.Frame, e api.Errno) {
	t.Helper()
	stream, is := a.Open()
	add(t, a, f, api.Frame{}, false, e)
	open(t, a, stream, is)
}

func open(t *testing.T, a *block.Assembly, stream int, is bool) {
	t.Helper()
	if s, ok := a.Open(); s != stream || ok != is {
		t.Errorf("Open: %d, %v, want %d, %v", s, ok, stream, is)
	}
}

func withData(f api.Frame, b ...byte) api.Frame {
	f.Data = b
	return f
}

func TestP301Takes(t *testing.T) {
	a := block.New(100)
	for kind := -2; kind < 300; kind++ {
		for _, stream := range []int{0, 1, 3} {
			if is := a.Takes(api.Frame{Type: kind, Stream: stream}); is != (kind != api.Continue) {
				t.Errorf("without a block: Takes of the type %d: %v", kind, is)
			}
		}
	}
	for _, begin := range []api.Frame{headers(3, 0), promise(3, 0), headers(3, 1, 1, 2), promise(3, 8, 1)} {
		a := block.New(100)
		more(t, a, begin)
		for range 2 {
			for kind := -2; kind < 300; kind++ {
				for _, flags := range []int{0, 4} {
					for _, stream := range []int{math.MinInt, -3, 0, 1, 3, 4, 1 << 31, math.MaxInt} {
						f := api.Frame{Type: kind, Stream: stream, Flags: flags}
						if is := a.Takes(f); is != (kind == api.Continue && stream == 3) {
							t.Errorf("within a block: Takes(%v): %v", f, is)
						}
					}
				}
			}
			more(t, a, goesOn(3, 0, 7))
		}
		if _, is, _ := a.Add(goesOn(3, 4)); !is {
			t.Error("the block has not ended")
		}
		if a.Takes(goesOn(3, 0)) || !a.Takes(headers(3, 0)) || !a.Takes(headers(1, 0)) || !a.Takes(api.Frame{}) {
			t.Error("behind a block it takes what it takes within one")
		}
	}
}

func TestP302One(t *testing.T) {
	a := block.New(100)
	for _, f := range []api.Frame{headers(1, 4), headers(1, 5, 1, 2, 3), headers(7, 255, 1), promise(1, 4, 9), promise(1, 12)} {
		for range 2 {
			add(t, a, withData(f, slices.Clone(f.Data)...), f, true, api.OK)
			open(t, a, 0, false)
		}
	}
	weighed := api.Frame{Type: api.Headers, Stream: 5, Flags: 4 + 8 + 32 + 64, Pad: 6, Weight: 255, Parent: 3, Alone: true, Data: []byte{1}}
	add(t, a, withData(weighed, 1), weighed, true, api.OK)
}

func TestP302Many(t *testing.T) {
	first := api.Frame{Type: api.Headers, Stream: 1, Flags: 1 + 8 + 32, Pad: 6, Weight: 255, Parent: 3, Alone: true}
	for _, first := range []api.Frame{first, promise(1, 0), headers(1, 0)} {
		a := block.New(6)
		for range 2 {
			more(t, a, withData(first, 1, 2))
			open(t, a, 1, true)
			more(t, a, goesOn(1, 0))
			more(t, a, goesOn(1, 1+2+8+16+32+64+128, 3))
			more(t, a, goesOn(1, 0, 4, 5))
			open(t, a, 1, true)
			add(t, a, goesOn(1, 4, 6), withData(first, 1, 2, 3, 4, 5, 6), true, api.OK)
			open(t, a, 0, false)
			refused(t, a, goesOn(1, 4), api.ErrForm)
		}
		more(t, a, first)
		add(t, a, goesOn(1, 255), first, true, api.OK) // of no bytes
	}
}

func TestP302Flags(t *testing.T) {
	for flags := -300; flags < 300; flags++ {
		a := block.New(10)
		f := headers(1, flags, 1)
		if ends := flags >= 0 && flags&4 != 0; ends {
			add(t, a, withData(f, 1), f, true, api.OK)
		} else {
			more(t, a, withData(f, 1))
			open(t, a, 1, true)
			more(t, a, goesOn(1, 0))
			add(t, a, goesOn(1, 4, 2), withData(f, 1, 2), true, api.OK)
		}
	}
}

func TestP302Own(t *testing.T) {
	a := block.New(10)
	// What no frame of these types has is told as it is, too.
	settings := []api.Setting{{Id: 1, Value: 2}}
	f := headers(1, 0)
	f.Settings, f.Last, f.Code, f.Step, f.Promised = slices.Clone(settings), 1, 2, 3, 4
	want := withData(f, 1, 2)
	want.Settings = settings
	more(t, a, withData(f, 1))
	add(t, a, goesOn(1, 4, 2), want, true, api.OK)

	one, _, _ := a.Add(headers(1, 4, 1, 2, 3))
	more(t, a, headers(1, 0, 9, 9, 9))
	two, _, _ := a.Add(goesOn(1, 4, 8))
	more(t, a, headers(1, 0, 7, 7))
	if !bytes.Equal(one.Data, []byte{1, 2, 3}) || !bytes.Equal(two.Data, []byte{9, 9, 9, 8}) {
		t.Error("later frames have changed what was answered:", one.Data, two.Data)
	}
	clear(two.Data[:cap(two.Data)])
	add(t, a, goesOn(1, 4, 6), headers(1, 0, 7, 7, 6), true, api.OK)
}

func TestP302Others(t *testing.T) {
	a := block.New(0)
	for kind := -2; kind < 300; kind++ {
		switch kind {
		case api.Headers, api.Promise:
		case api.Continue:
			refused(t, a, goesOn(1, 4), api.ErrForm)
			refused(t, a, goesOn(0, 0, 1, 2), api.ErrForm)
		default:
			more(t, a, api.Frame{Type: kind, Stream: 1, Flags: 255, Data: []byte{1, 2, 3}}) // however long
			open(t, a, 0, false)
		}
	}
}

func TestP302Form(t *testing.T) {
	a := block.New(3)
	more(t, a, headers(1, 1, 1, 2))
	for _, f := range []api.Frame{
		headers(1, 4), headers(1, 0, 1), headers(3, 4, 1, 2, 3, 4), promise(1, 4), goesOn(3, 4, 1), goesOn(0, 0), goesOn(-1, 4), goesOn(3, 4, 1, 2, 3, 4), // too long, too
		{}, {Type: api.Ping}, {Type: api.Data, Stream: 1}, {Type: api.Settings}, {Type: api.Preface}, {Type: 10, Stream: 1}, {Type: 255}, {Type: -9}, {Type: 265, Stream: 1},
	} {
		refused(t, a, f, api.ErrForm)
	}
	add(t, a, goesOn(1, 4, 3), headers(1, 1, 1, 2, 3), true, api.OK)
}

func TestP302Long(t *testing.T) {
	a := block.New(3)
	refused(t, a, headers(1, 4, 1, 2, 3, 4), api.ErrLong)
	refused(t, a, headers(1, 0, 1, 2, 3, 4), api.ErrLong)
	refused(t, a, promise(1, 0, 1, 2, 3, 4), api.ErrLong)
	if !a.Takes(api.Frame{}) || a.Takes(goesOn(1, 4)) {
		t.Error("a block is begun whose first frame was too long")
	}
	add(t, a, headers(1, 4, 1, 2, 3), headers(1, 4, 1, 2, 3), true, api.OK)
	more(t, a, headers(1, 0, 1, 2))
	refused(t, a, goesOn(1, 4, 3, 4), api.ErrLong)
	refused(t, a, goesOn(1, 0, 3, 4), api.ErrLong)
	refused(t, a, goesOn(3, 0, 3, 4), api.ErrForm)
	more(t, a, goesOn(1, 0, 3))
	more(t, a, goesOn(1, 0))
	refused(t, a, goesOn(1, 4, 4), api.ErrLong)
	add(t, a, goesOn(1, 4), headers(1, 0, 1, 2, 3), true, api.OK)
	more(t, a, headers(1, 0, 1, 2, 3)) // there is room for as many once more
	refused(t, a, goesOn(1, 0, 1), api.ErrLong)
}

func TestP302Most(t *testing.T) {
	for _, a := range []*block.Assembly{block.New(0), block.New(-1), block.New(math.MinInt), {}} {
		refused(t, a, headers(1, 4, 1), api.ErrLong)
		add(t, a, headers(1, 4), headers(1, 4), true, api.OK)
		more(t, a, headers(1, 0))
		open(t, a, 1, true)
		refused(t, a, goesOn(1, 4, 1), api.ErrLong)
		add(t, a, goesOn(1, 4), headers(1, 0), true, api.OK)
	}
	a := block.New(math.MaxInt)
	long := bytes.Repeat([]byte{7}, 1<<20)
	more(t, a, headers(1, 0, slices.Clone(long)...))
	more(t, a, goesOn(1, 0, slices.Clone(long)...))
	add(t, a, goesOn(1, 4, 1), headers(1, 0, append(slices.Concat(long, long), 1)...), true, api.OK)
	one := block.New(1)
	refused(t, one, headers(1, 4, 1, 2), api.ErrLong)
	add(t, one, headers(1, 4, 1), headers(1, 4, 1), true, api.OK)
}

func TestP303Open(t *testing.T) {
	a := block.New(9)
	open(t, a, 0, false)
	for _, stream := range []int{1, 2, 0, 1<<31 - 1, -5, math.MaxInt, math.MinInt} {
		more(t, a, headers(stream, 0, 1))
		open(t, a, stream, true)
		more(t, a, goesOn(stream, 0))
		open(t, a, stream, true)
		add(t, a, goesOn(stream, 4), headers(stream, 0, 1), true, api.OK)
		open(t, a, 0, false)
		more(t, a, promise(stream, 0, 1))
		open(t, a, stream, true) // not the promised one
		add(t, a, goesOn(stream, 4), promise(stream, 0, 1), true, api.OK)
		more(t, a, api.Frame{Type: api.Data, Stream: stream})
		open(t, a, 0, false)
	}
	open(t, &block.Assembly{}, 0, false)
}

func TestP303Nil(t *testing.T) {
	var a *block.Assembly
	for _, f := range []api.Frame{{}, headers(1, 4, 1), headers(1, 0), promise(1, 4), goesOn(1, 4), {Type: api.Ping}, {Type: -2}} {
		if a.Takes(f) {
			t.Errorf("of nil: Takes(%v)", f)
		}
		add(t, a, f, api.Frame{}, false, api.ErrNil)
		open(t, a, 0, false)
	}
}

func TestP303Apart(t *testing.T) {
	a, b := block.New(9), block.New(9)
	more(t, a, headers(1, 0, 1))
	open(t, b, 0, false)
	more(t, b, headers(3, 0, 2))
	add(t, a, goesOn(1, 4, 3), headers(1, 0, 1, 3), true, api.OK)
	add(t, b, goesOn(3, 4, 4), headers(3, 0, 2, 4), true, api.OK)
}

// model is an assembly by the document's words: the frames of the block that is begun.
type model struct {
	most int
	l    []api.Frame
}

func (m *model) add(f api.Frame) (api.Frame, bool, api.Errno) {
	taken := f.Type != api.Continue
	if len(m.l) > 0 {
		taken = f.Type == api.Continue && f.Stream == m.l[0].Stream
	}
	if !taken {
		return api.Frame{}, false, api.ErrForm
	}
	if !slices.Contains([]int{api.Headers, api.Promise, api.Continue}, f.Type) {
		return api.Frame{}, false, api.OK
	}
	var all []byte
	l := append(slices.Clone(m.l), f)
	for _, part := range l {
		all = append(all, part.Data...)
	}
	if len(all) > m.most {
		return api.Frame{}, false, api.ErrLong
	}
	if m.l = l; f.Flags&4 == 0 {
		return api.Frame{}, false, api.OK
	}
	m.l = nil
	return withData(l[0], all...), true, api.OK
}

func TestP302Random(t *testing.T) {
	random := rand.New(rand.NewSource(30))
	kinds := []int{api.Headers, api.Promise, api.Continue, api.Continue, api.Continue, api.Ping, 11}
	seen := map[api.Errno]int{}
	for range 3000 {
		most := random.Intn(12)
		a, m := block.New(most), &model{most: most}
		for range 30 {
			f := api.Frame{Type: kinds[random.Intn(len(kinds))], Stream: 1 + random.Intn(2), Flags: random.Intn(256), Pad: random.Intn(3) - 1, Weight: random.Intn(9), Promised: random.Intn(9)}
			f.Data = make([]byte, random.Intn(4))
			for i := range f.Data {
				f.Data[i] = byte(random.Intn(256))
			}
			want, is, e := m.add(f)
			seen[e]++
			add(t, a, withData(f, slices.Clone(f.Data)...), want, is, e)
			if len(m.l) > 0 {
				open(t, a, m.l[0].Stream, true)
			} else {
				open(t, a, 0, false)
			}
		}
		if t.Failed() {
			return
		}
	}
	for _, e := range []api.Errno{api.OK, api.ErrForm, api.ErrLong} {
		if seen[e] < 100 {
			t.Errorf("error %d came but %d times", e, seen[e])
		}
	}
}

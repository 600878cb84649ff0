package setting_test

import (
	"bytes"
	"math"
	"slices"
	"testing"

	"stickler/api"
	"stickler/setting"
)

var forms = []struct {
	l []api.Setting
	b []byte
}{
	{nil, nil},
	{[]api.Setting{{Id: 5, Value: 16384}}, []byte{0, 5, 0, 0, 64, 0}},
	{[]api.Setting{{}}, make([]byte, 6)},
	{[]api.Setting{{Id: 65535, Value: 1<<32 - 1}}, bytes.Repeat([]byte{255}, 6)},
	{[]api.Setting{{Id: 0x0102, Value: 0x03040506}, {Id: 4, Value: 1 << 31}, {Id: 4}}, []byte{1, 2, 3, 4, 5, 6, 0, 4, 128, 0, 0, 0, 0, 4, 0, 0, 0, 0}},
}

func TestP131Forms(t *testing.T) {
	for _, c := range forms {
		if l, e := setting.Parse(c.b); !slices.Equal(l, c.l) || e != api.OK {
			t.Errorf("Parse(%v): %v, %d", c.b, l, e)
		}
		if b, e := setting.Put(c.l); !bytes.Equal(b, c.b) || e != api.OK {
			t.Errorf("Put(%v): %v, %d", c.l, b, e)
		}
	}
}

func TestP131Parse(t *testing.T) {
	b := bytes.Repeat([]byte{0, 1, 0, 0, 0, 7}, 5)
	for n := range len(b) + 1 {
		l, e := setting.Parse(b[:n])
		if n%6 != 0 && (len(l) != 0 || e != api.ErrForm) {
			t.Errorf("Parse of %d bytes: %v, %d", n, l, e)
		}
		if n%6 == 0 && (len(l) != n/6 || e != api.OK) {
			t.Errorf("Parse of %d bytes: %v, %d", n, l, e)
		}
	}
	if !bytes.Equal(b, bytes.Repeat([]byte{0, 1, 0, 0, 0, 7}, 5)) {
		t.Error("what was handed in was changed:", b)
	}
}

func TestP131Put(t *testing.T) {
	for _, s := range []api.Setting{
		{Id: -1}, {Id: 65536}, {Id: math.MinInt}, {Id: math.MaxInt}, {Id: 1 << 32},
		{Value: -1}, {Value: 1 << 32}, {Value: math.MinInt}, {Value: math.MaxInt},
	} {
		for _, l := range [][]api.Setting{{s}, {{Id: 1}, s}, {s, {Id: 1}}} {
			if b, e := setting.Put(l); len(b) != 0 || e != api.ErrRange {
				t.Errorf("Put(%v): %v, %d", l, b, e)
			}
		}
	}
}

func TestP131Many(t *testing.T) {
	l := make([]api.Setting, 1<<19)
	for i := range l {
		l[i] = api.Setting{Id: i % 65536, Value: i}
	}
	b, e := setting.Put(l)
	if len(b) != 6*len(l) || e != api.OK {
		t.Fatal(len(b), e)
	}
	if got, e := setting.Parse(b); !slices.Equal(got, l) || e != api.OK {
		t.Error(len(got), e)
	}
}

func conn(code int) api.Fault { return api.Fault{Scope: api.OfConn, Code: code} }

func TestP132Check(t *testing.T) {
	for _, c := range []struct {
		s              api.Setting
		client, server int // the code of the fault; 0: there is none
	}{
		{api.Setting{Id: 2, Value: 0}, 0, 0},
		{api.Setting{Id: 2, Value: 1}, 0, 1},
		{api.Setting{Id: 2, Value: 2}, 1, 1},
		{api.Setting{Id: 2, Value: 1<<32 - 1}, 1, 1},
		{api.Setting{Id: 2, Value: math.MaxInt}, 1, 1},
		{api.Setting{Id: 2, Value: -1}, 0, 0},
		{api.Setting{Id: 4, Value: 0}, 0, 0},
		{api.Setting{Id: 4, Value: 1<<31 - 1}, 0, 0},
		{api.Setting{Id: 4, Value: 1 << 31}, 3, 3},
		{api.Setting{Id: 4, Value: math.MaxInt}, 3, 3},
		{api.Setting{Id: 4, Value: -1}, 0, 0},
		{api.Setting{Id: 5, Value: 1<<14 - 1}, 1, 1},
		{api.Setting{Id: 5, Value: 1 << 14}, 0, 0},
		{api.Setting{Id: 5, Value: 1<<24 - 1}, 0, 0},
		{api.Setting{Id: 5, Value: 1 << 24}, 1, 1},
		{api.Setting{Id: 5, Value: 0}, 1, 1},
		{api.Setting{Id: 5, Value: -1}, 1, 1},
		{api.Setting{Id: 5, Value: math.MinInt}, 1, 1},
		{api.Setting{Id: 1, Value: math.MaxInt}, 0, 0},
		{api.Setting{Id: 3, Value: math.MinInt}, 0, 0},
		{api.Setting{Id: 6, Value: 1<<32 - 1}, 0, 0},
		{api.Setting{Id: 0, Value: 1 << 31}, 0, 0},
		{api.Setting{Id: 7, Value: 1 << 31}, 0, 0},
		{api.Setting{Id: 65536 + 5, Value: 0}, 0, 0},
		{api.Setting{Id: -5, Value: 1 << 31}, 0, 0},
	} {
		for from, code := range map[int]int{0: c.client, 1: c.server, 2: c.client, -1: c.client, math.MaxInt: c.client} {
			want := api.Fault{}
			if code != 0 {
				want = conn(code)
			}
			if f, ok := setting.Check([]api.Setting{c.s}, from); f != want || ok != (code == 0) {
				t.Errorf("Check(%v) from %d: %v, %v", c.s, from, f, ok)
			}
		}
	}
}

func TestP132First(t *testing.T) {
	push, window, frame, fine := api.Setting{Id: 2, Value: 2}, api.Setting{Id: 4, Value: 1 << 31}, api.Setting{Id: 5}, api.Setting{Id: 1}
	for _, c := range []struct {
		l []api.Setting
		f api.Fault
	}{
		{nil, api.Fault{}},
		{[]api.Setting{fine, fine}, api.Fault{}},
		{[]api.Setting{fine, window, push}, conn(3)},
		{[]api.Setting{push, fine, window}, conn(1)},
		{[]api.Setting{fine, frame, window}, conn(1)},
		{[]api.Setting{window, frame, push}, conn(3)},
		{[]api.Setting{fine, fine, window}, conn(3)},
	} {
		if f, ok := setting.Check(c.l, 0); f != c.f || ok != (c.f == api.Fault{}) {
			t.Errorf("Check(%v): %v, %v", c.l, f, ok)
		}
	}
}

func TestP133Initial(t *testing.T) {
	want := api.Values{Table: 4096, Push: 1, Streams: 1 << 32, Window: 65535, Frame: 16384, List: 1 << 32}
	if v := setting.Initial(); v != want {
		t.Errorf("%+v", v)
	}
}

func TestP133Apply(t *testing.T) {
	v := api.Values{Table: 1, Push: 2, Streams: 3, Window: 4, Frame: 5, List: 6}
	for _, c := range []struct {
		l    []api.Setting
		want api.Values
	}{
		{nil, v},
		{[]api.Setting{{Id: 1, Value: 70}}, api.Values{Table: 70, Push: 2, Streams: 3, Window: 4, Frame: 5, List: 6}},
		{[]api.Setting{{Id: 2, Value: 70}}, api.Values{Table: 1, Push: 70, Streams: 3, Window: 4, Frame: 5, List: 6}},
		{[]api.Setting{{Id: 3, Value: 70}}, api.Values{Table: 1, Push: 2, Streams: 70, Window: 4, Frame: 5, List: 6}},
		{[]api.Setting{{Id: 4, Value: 70}}, api.Values{Table: 1, Push: 2, Streams: 3, Window: 70, Frame: 5, List: 6}},
		{[]api.Setting{{Id: 5, Value: 70}}, api.Values{Table: 1, Push: 2, Streams: 3, Window: 4, Frame: 70, List: 6}},
		{[]api.Setting{{Id: 6, Value: 70}}, api.Values{Table: 1, Push: 2, Streams: 3, Window: 4, Frame: 5, List: 70}},
		{[]api.Setting{{Id: 0, Value: 70}, {Id: 7, Value: 70}, {Id: -1, Value: 70}, {Id: 65536 + 1, Value: 70}}, v},
		{[]api.Setting{{Id: 4, Value: 7}, {Id: 1, Value: math.MinInt}, {Id: 4, Value: math.MaxInt}, {Id: 9}}, api.Values{Table: math.MinInt, Push: 2, Streams: 3, Window: math.MaxInt, Frame: 5, List: 6}},
		{[]api.Setting{{Id: 6}, {Id: 5}, {Id: 4}, {Id: 3}, {Id: 2}, {Id: 1}}, api.Values{}},
	} {
		l := slices.Clone(c.l)
		if got := setting.Apply(v, l); got != c.want {
			t.Errorf("Apply(%v): %+v", c.l, got)
		}
		if !slices.Equal(l, c.l) {
			t.Error("what was handed in was changed:", l)
		}
	}
}

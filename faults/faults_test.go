package faults_test

import (
	"math"
	"slices"
	"strconv"
	"testing"

	"stickler/api"
	"stickler/faults"
)

var codeNames = []string{
	"NO_ERROR", "PROTOCOL_ERROR", "INTERNAL_ERROR", "FLOW_CONTROL_ERROR", "SETTINGS_TIMEOUT", "STREAM_CLOSED", "FRAME_SIZE_ERROR",
	"REFUSED_STREAM", "CANCEL", "COMPRESSION_ERROR", "CONNECT_ERROR", "ENHANCE_YOUR_CALM", "INADEQUATE_SECURITY", "HTTP_1_1_REQUIRED",
}

func stream(code int) api.Fault { return api.Fault{Scope: api.OfStream, Code: code} }
func conn(code int) api.Fault   { return api.Fault{Scope: api.OfConn, Code: code} }

var wrong = []api.Fault{
	{}, {Scope: 0, Code: 1}, {Scope: 3, Code: 1}, {Scope: -1, Code: 1}, {Scope: math.MinInt, Code: 1}, {Scope: math.MaxInt, Code: 1},
	stream(-1), conn(-1), stream(1 << 32), conn(1 << 32), stream(math.MinInt), conn(math.MaxInt),
}

func TestP91Codes(t *testing.T) {
	for code, name := range codeNames {
		if s := faults.CodeName(code); s != name {
			t.Errorf("CodeName(%d): %s", code, s)
		}
		if n, ok := faults.Code(name); n != code || !ok {
			t.Errorf("Code(%s): %d, %v", name, n, ok)
		}
	}
	for _, code := range []int{14, 15, 100, 1 << 31, 1<<32 - 1} {
		if s := faults.CodeName(code); s != strconv.Itoa(code) {
			t.Errorf("CodeName(%d): %s", code, s)
		}
		if n, ok := faults.Code(strconv.Itoa(code)); n != code || !ok {
			t.Errorf("Code(%d): %d, %v", code, n, ok)
		}
	}
	for _, code := range []int{-1, 1 << 32, math.MinInt, math.MaxInt} {
		if s := faults.CodeName(code); s != "" {
			t.Errorf("CodeName(%d): %s", code, s)
		}
	}
}

func TestP91Code(t *testing.T) {
	for _, s := range []string{
		"", "0", "1", "13", "-1", "014", "+14", "14 ", " 14", "4294967296", "9223372036854775808", "18446744073709551630",
		"no_error", "NO_ERROR ", "NO ERROR", "PROTOCOL", "HTTP_1_1", "1a", "\xff",
	} {
		if n, ok := faults.Code(s); n != 0 || ok {
			t.Errorf("Code(%q): %d, %v", s, n, ok)
		}
	}
}

func TestP92Right(t *testing.T) {
	for _, f := range []api.Fault{stream(0), conn(0), stream(13), conn(14), stream(1<<32 - 1), conn(1<<32 - 1)} {
		if !faults.Right(f) {
			t.Errorf("%v is not right", f)
		}
	}
	for _, f := range wrong {
		if faults.Right(f) {
			t.Errorf("%v is right", f)
		}
	}
}

func TestP92Less(t *testing.T) {
	rising := []api.Fault{
		{Scope: math.MinInt, Code: 5}, {}, {Scope: 0, Code: 9}, stream(math.MinInt), stream(-1), stream(0), stream(1), stream(20),
		stream(1 << 32), stream(math.MaxInt), conn(-5), conn(0), conn(1), conn(math.MaxInt), {Scope: 3}, {Scope: math.MaxInt, Code: -1},
	}
	for i, a := range rising {
		for k, b := range rising {
			if faults.Less(a, b) != (i < k) {
				t.Errorf("Less(%v, %v): %v", a, b, !(i < k))
			}
		}
	}
}

func TestP92Of(t *testing.T) {
	for _, c := range []struct{ l, set []api.Fault }{
		{nil, nil},
		{[]api.Fault{conn(1)}, []api.Fault{conn(1)}},
		{[]api.Fault{conn(1), stream(5)}, []api.Fault{stream(5), conn(1)}},
		{[]api.Fault{conn(1), conn(1), stream(5), conn(1), stream(5)}, []api.Fault{stream(5), conn(1)}},
		{[]api.Fault{stream(10), stream(9), conn(0), stream(1<<32 - 1)}, []api.Fault{stream(9), stream(10), stream(1<<32 - 1), conn(0)}},
		{wrong, nil},
		{append([]api.Fault{conn(2), stream(3)}, wrong...), []api.Fault{stream(3), conn(2)}},
		{append(slices.Clone(wrong), conn(2), stream(3)), []api.Fault{stream(3), conn(2)}},
	} {
		l := slices.Clone(c.l)
		if set := faults.Of(l...); !slices.Equal(set, c.set) {
			t.Errorf("Of(%v): %v", c.l, set)
		}
		for i := range l {
			if set := faults.Union(l[:i], l[i:]); !slices.Equal(set, c.set) {
				t.Errorf("Union(%v, %v): %v", l[:i], l[i:], set)
			}
		}
		if !slices.Equal(l, c.l) {
			t.Error("what was handed in was changed:", l)
		}
	}
}

func TestP92Union(t *testing.T) {
	room := append(make([]api.Fault, 0, 8), conn(3), stream(2))
	set := faults.Union(room, []api.Fault{stream(1), conn(3)})
	if !slices.Equal(set, []api.Fault{stream(1), stream(2), conn(3)}) {
		t.Error(set)
	}
	clear(set)
	_ = append(set, conn(9))
	if !slices.Equal(room[:3], []api.Fault{conn(3), stream(2), {}}) {
		t.Error("what was handed in was changed:", room[:3])
	}
	if set := faults.Union(nil, nil); len(set) != 0 {
		t.Error(set)
	}
}

func TestP92NewMemory(t *testing.T) {
	l := []api.Fault{stream(1), conn(2)}
	set := faults.Of(l...)
	set[0] = conn(9)
	if l[0] != stream(1) {
		t.Error("what was handed in was changed:", l)
	}
}

func TestP92Has(t *testing.T) {
	l := []api.Fault{conn(1), {}, stream(5), {Scope: 7, Code: -7}}
	for _, f := range l {
		if !faults.Has(l, f) {
			t.Errorf("has not %v", f)
		}
	}
	for _, f := range []api.Fault{stream(1), conn(5), {Scope: 7}, {Code: 1}} {
		if faults.Has(l, f) || faults.Has(nil, f) {
			t.Errorf("has %v", f)
		}
	}
}

func TestP92Same(t *testing.T) {
	l := []api.Fault{conn(1), stream(5), {Scope: 9, Code: -1}}
	for _, c := range []struct {
		a, b []api.Fault
		same bool
	}{
		{l, slices.Clone(l), true},
		{nil, []api.Fault{}, true},
		{nil, l, false},
		{l, l[:2], false},
		{l[:2], l, false},
		{l[:2], []api.Fault{stream(5), conn(1)}, false},
		{l[:1], []api.Fault{conn(1), conn(1)}, false},
		{l[:1], []api.Fault{stream(1)}, false},
		{l[:1], []api.Fault{conn(2)}, false},
	} {
		if faults.Same(c.a, c.b) != c.same {
			t.Errorf("Same(%v, %v): %v", c.a, c.b, !c.same)
		}
	}
}

func TestP93Text(t *testing.T) {
	for _, c := range []struct {
		f api.Fault
		s string
	}{
		{stream(0), "stream:NO_ERROR"},
		{conn(1), "connection:PROTOCOL_ERROR"},
		{stream(13), "stream:HTTP_1_1_REQUIRED"},
		{conn(14), "connection:14"},
		{stream(1<<32 - 1), "stream:4294967295"},
	} {
		if s := faults.Text(c.f); s != c.s {
			t.Errorf("Text(%v): %s", c.f, s)
		}
		if f, ok := faults.Read(c.s); f != c.f || !ok {
			t.Errorf("Read(%s): %v, %v", c.s, f, ok)
		}
	}
	for _, f := range wrong {
		if s := faults.Text(f); s != "" {
			t.Errorf("Text(%v): %s", f, s)
		}
	}
}

var noTexts = []string{
	"", ":", "stream", "connection", "stream:", ":NO_ERROR", "NO_ERROR", "streamNO_ERROR", "stream:0", "stream:13", "stream:014",
	"stream:-1", "stream:4294967296", "Stream:NO_ERROR", "stream:no_error", "stream: NO_ERROR", " stream:NO_ERROR", "stream:NO_ERROR ",
	"stream::NO_ERROR", "stream:NO_ERROR:", "conn:NO_ERROR", "1:NO_ERROR", "stream:connection:NO_ERROR", "stream:\xff",
}

func TestP93Read(t *testing.T) {
	for _, s := range append(noTexts, "-", "stream:NO_ERROR,connection:NO_ERROR") {
		if f, ok := faults.Read(s); f != (api.Fault{}) || ok {
			t.Errorf("Read(%q): %v, %v", s, f, ok)
		}
	}
}

func TestP93Show(t *testing.T) {
	for _, c := range []struct {
		l []api.Fault
		s string
	}{
		{nil, "-"},
		{wrong, "-"},
		{[]api.Fault{conn(1), stream(5)}, "stream:STREAM_CLOSED,connection:PROTOCOL_ERROR"},
		{[]api.Fault{conn(1), {}, conn(1)}, "connection:PROTOCOL_ERROR"},
		{[]api.Fault{stream(100), stream(20), stream(3)}, "stream:FLOW_CONTROL_ERROR,stream:20,stream:100"},
	} {
		l := slices.Clone(c.l)
		if s := faults.Show(l); s != c.s {
			t.Errorf("Show(%v): %s", c.l, s)
		}
		if !slices.Equal(l, c.l) {
			t.Error("what was handed in was changed:", l)
		}
		if set, ok := faults.ReadSet(c.s); !slices.Equal(set, faults.Of(c.l...)) || !ok {
			t.Errorf("ReadSet(%s): %v, %v", c.s, set, ok)
		}
	}
}

func TestP93ReadSet(t *testing.T) {
	for _, s := range append(noTexts,
		"-,-", "--", ",", "-,stream:NO_ERROR", "stream:NO_ERROR,-", "stream:NO_ERROR,", ",stream:NO_ERROR", "stream:NO_ERROR,,connection:NO_ERROR",
		"stream:NO_ERROR, connection:NO_ERROR", "stream:NO_ERROR,stream:NO_ERROR", "connection:NO_ERROR,stream:NO_ERROR",
		"stream:CANCEL,stream:NO_ERROR", "stream:NO_ERROR,stream:CANCEL,stream:CANCEL", "stream:100,stream:20",
		"stream:NO_ERROR,connection:x",
	) {
		if set, ok := faults.ReadSet(s); len(set) != 0 || ok {
			t.Errorf("ReadSet(%q): %v, %v", s, set, ok)
		}
	}
}

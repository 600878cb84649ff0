package kinds_test

import (
	"math"
	"slices"
	"strconv"
	"testing"

	"stickler/kinds"
)

var known = []struct {
	name    string
	flags   []int
	shown   []string
	streams int
}{
	{"DATA", []int{1, 8}, []string{"END_STREAM", "PADDED"}, 1},
	{"HEADERS", []int{1, 4, 8, 32}, []string{"END_STREAM", "END_HEADERS", "PADDED", "PRIORITY"}, 1},
	{"PRIORITY", nil, nil, 1},
	{"RST_STREAM", nil, nil, 1},
	{"SETTINGS", []int{1}, []string{"ACK"}, 0},
	{"PUSH_PROMISE", []int{4, 8}, []string{"END_HEADERS", "PADDED"}, 1},
	{"PING", []int{1}, []string{"ACK"}, 0},
	{"GOAWAY", nil, nil, 0},
	{"WINDOW_UPDATE", nil, nil, 2},
	{"CONTINUATION", []int{4}, []string{"END_HEADERS"}, 1},
}

var others = []int{math.MinInt, -1 << 32, -2, 256, 257, 1 << 32, math.MaxInt}

func name(t int) string {
	switch {
	case t == -1:
		return "PREFACE"
	case t < 10:
		return known[t].name
	}
	return "TYPE_" + strconv.Itoa(t)
}

func TestP81Name(t *testing.T) {
	for n := -1; n < 256; n++ {
		if s := kinds.Name(n); s != name(n) {
			t.Errorf("Name(%d): %s", n, s)
		}
		if k, ok := kinds.ByName(name(n)); k != n || !ok {
			t.Errorf("ByName(%s): %d, %v", name(n), k, ok)
		}
		if kinds.Known(n) != (0 <= n && n <= 9) {
			t.Errorf("Known(%d)", n)
		}
	}
	for _, n := range others {
		if s := kinds.Name(n); s != "" || kinds.Known(n) {
			t.Errorf("Name(%d): %s; Known: %v", n, s, kinds.Known(n))
		}
	}
}

func TestP81ByName(t *testing.T) {
	for _, s := range []string{
		"", "data", "Data", "DATA ", " DATA", "DATA\x00", "DAT", "DATAS", "PREFACE ", "preface", "SETTING",
		"TYPE_", "TYPE_0", "TYPE_9", "TYPE_-1", "TYPE_256", "TYPE_010", "TYPE_+10", "TYPE_10 ", "TYPE_ 10", "TYPE_1a",
		"type_10", "TYPE10", "TYPE_TYPE_10", "TYPE_18446744073709551626", "TYPE_9223372036854775808", "10", "TYPE_1\xff", "\xff",
	} {
		if k, ok := kinds.ByName(s); k != 0 || ok {
			t.Errorf("ByName(%q): %d, %v", s, k, ok)
		}
	}
}

func sum(l []int) int {
	n := 0
	for _, f := range l {
		n += f
	}
	return n
}

func uses(t int) []int {
	if t < 0 || t > 9 {
		return nil
	}
	return known[t].flags
}

func TestP82Used(t *testing.T) {
	for n := -1; n < 256; n++ {
		if u := kinds.Used(n); u != sum(uses(n)) {
			t.Errorf("Used(%d): %d", n, u)
		}
	}
	for _, n := range others {
		if u := kinds.Used(n); u != 0 {
			t.Errorf("Used(%d): %d", n, u)
		}
	}
}

func TestP82Has(t *testing.T) {
	for n := -2; n < 12; n++ {
		for flags := range 512 {
			for flag := -2; flag < 260; flag++ {
				want := slices.Contains(uses(n), flag) && flags&flag != 0
				if kinds.Has(n, flags, flag) != want {
					t.Fatalf("Has(%d, %d, %d): %v", n, flags, flag, !want)
				}
			}
		}
	}
}

func TestP82HasOdd(t *testing.T) {
	for _, n := range others {
		if kinds.Has(n, 255, 1) {
			t.Errorf("Has(%d, 255, 1)", n)
		}
		if kinds.Has(1, 255, n) || kinds.Has(1, -1, n) {
			t.Errorf("Has(1, 255, %d)", n)
		}
	}
	for _, flags := range []int{-1, math.MinInt, -255, -1 << 32} {
		for _, flag := range []int{1, 4, 8, 32} {
			if kinds.Has(1, flags, flag) {
				t.Errorf("Has(1, %d, %d)", flags, flag)
			}
		}
		if l := kinds.Flags(1, flags); len(l) != 0 {
			t.Errorf("Flags(1, %d): %v", flags, l)
		}
	}
	if !kinds.Has(1, math.MaxInt, 32) || !kinds.Has(0, 1<<32+8, 8) || kinds.Has(0, 1<<32, 8) {
		t.Error("flags of more bits")
	}
}

func TestP82Flags(t *testing.T) {
	for n := -2; n < 258; n++ {
		for flags := range 300 {
			var want []string
			for i, f := range uses(n) {
				if flags&f != 0 {
					want = append(want, known[n].shown[i])
				}
			}
			if l := kinds.Flags(n, flags); !slices.Equal(l, want) {
				t.Fatalf("Flags(%d, %d): %v", n, flags, l)
			}
		}
	}
	for _, n := range others {
		if l := kinds.Flags(n, 255); len(l) != 0 {
			t.Errorf("Flags(%d, 255): %v", n, l)
		}
	}
}

func TestP82Examples(t *testing.T) {
	if l := kinds.Flags(1, 5); !slices.Equal(l, []string{"END_STREAM", "END_HEADERS"}) {
		t.Error(l)
	}
	if l := kinds.Flags(4, 255); !slices.Equal(l, []string{"ACK"}) {
		t.Error(l)
	}
	if s := kinds.Name(11); s != "TYPE_11" {
		t.Error(s)
	}
}

func TestP82NewMemory(t *testing.T) {
	l := kinds.Flags(1, 255)
	clear(l)
	if l := kinds.Flags(1, 255); !slices.Equal(l, known[1].shown) {
		t.Error(l)
	}
}

func TestP83Streams(t *testing.T) {
	for n := -1; n < 256; n++ {
		want := 2
		if 0 <= n && n < 10 {
			want = known[n].streams
		}
		if s := kinds.Streams(n); s != want {
			t.Errorf("Streams(%d): %d", n, s)
		}
	}
	for _, n := range others {
		if s := kinds.Streams(n); s != 2 {
			t.Errorf("Streams(%d): %d", n, s)
		}
	}
}

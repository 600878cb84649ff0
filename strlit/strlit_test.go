package strlit_test

import (
	"bytes"
	"math"
	"math/rand"
	"strings"
	"testing"

	"stickler/api"
	"stickler/huff"
	"stickler/prefix"
	"stickler/strlit"
)

var texts = []string{"", "a", "ab", "www.example.com", "\x00", "\xff\xfe\x00", "a\nb", "\u00fc\u20ac", strings.Repeat("x", 126),
	strings.Repeat("x", 127), strings.Repeat("x", 128), strings.Repeat("0", 203), strings.Repeat("\x0a", 40), strings.Repeat("long ", 60000)}

func number(first, n int) []byte {
	b, e := prefix.Put(first, 7, n)
	if e != api.OK {
		panic(e)
	}
	return b
}

func behind(b []byte, more ...byte) []byte {
	return append(bytes.Clone(b), more...)
}

func TestP191Put(t *testing.T) {
	for _, s := range texts {
		if b := strlit.Put(s, false); !bytes.Equal(b, behind(number(0, len(s)), []byte(s)...)) {
			t.Errorf("%.20q: %.20v", s, b)
		}
		x := huff.Encode([]byte(s))
		if b := strlit.Put(s, true); !bytes.Equal(b, behind(number(128, len(x)), x...)) {
			t.Errorf("%.20q, short: %.20v", s, b)
		}
	}
	for _, c := range []struct {
		s     string
		short bool
		want  []byte
	}{
		{"ab", false, []byte{2, 97, 98}},
		{"ab", true, []byte{130, 28, 127}},
		{"", false, []byte{0}},
		{"", true, []byte{128}},
		{"\x00", true, []byte{130, 255, 199}},
	} {
		if b := strlit.Put(c.s, c.short); !bytes.Equal(b, c.want) {
			t.Errorf("Put(%q, %v): %v", c.s, c.short, b)
		}
	}
}

func TestP192Get(t *testing.T) {
	for _, s := range texts {
		for _, short := range []bool{false, true} {
			b := strlit.Put(s, short)
			n := len(s)
			if short {
				n = huff.Size([]byte(s))
			}
			want := strlit.Text{S: s, Short: short}
			for _, most := range []int{n, n + 1, 1 << 20, math.MaxInt} {
				for _, l := range [][]byte{b, behind(b, 0), behind(b, 255, 1)} {
					if got, at, e := strlit.Get(l, most); got != want || at != len(b) || e != api.OK {
						t.Errorf("Get of %.20q, %v: %.20q, %v, %d, %d", s, short, got.S, got.Short, at, e)
					}
				}
			}
			if n == 0 {
				continue
			}
			for _, most := range []int{n - 1, 0, -1, math.MinInt} {
				wrong(t, b, most, api.ErrLong)
				wrong(t, b[:len(b)-1], most, api.ErrLong)
			}
			wrong(t, b[:len(b)-1], n, api.ErrShort)
		}
	}
}

func wrong(t *testing.T, b []byte, most int, want api.Errno) {
	t.Helper()
	if got, at, e := strlit.Get(b, most); got != (strlit.Text{}) || at != 0 || e != want {
		t.Errorf("Get(%.20v, %d): %.20q, %v, %d, %d, want %d", b, most, got.S, got.Short, at, e, want)
	}
}

func TestP192None(t *testing.T) {
	for _, most := range []int{math.MinInt, -1, 0, 5} {
		for first, short := range map[byte]bool{0: false, 128: true} {
			if got, at, e := strlit.Get([]byte{first, 7}, most); got != (strlit.Text{Short: short}) || at != 1 || e != api.OK {
				t.Errorf("Get(%d, %d): %v, %d, %d", first, most, got, at, e)
			}
		}
	}
}

func TestP192Wrong(t *testing.T) {
	for _, c := range []struct {
		b    []byte
		most int
		want api.Errno
	}{
		{nil, 9, api.ErrShort},
		{[]byte{}, -1, api.ErrShort},
		{[]byte{127}, 0, api.ErrShort},
		{[]byte{255, 128}, 0, api.ErrShort},
		{[]byte{127, 128, 128, 128, 128, 128}, 0, api.ErrRange},
		{[]byte{255, 255, 255, 255, 255, 127}, 0, api.ErrRange},
		{[]byte{127, 255, 255, 255, 255, 7}, math.MaxInt, api.ErrRange},
		{[]byte{127, 128, 255, 255, 255, 7}, 1<<31 - 2, api.ErrLong},
		{[]byte{127, 128, 255, 255, 255, 7}, 1<<31 - 1, api.ErrShort},
		{[]byte{127, 128, 255, 255, 255, 7, 9}, math.MaxInt, api.ErrShort},
		{[]byte{2, 97}, 2, api.ErrShort},
		{[]byte{2, 97}, 1, api.ErrLong},
		{[]byte{1}, 1, api.ErrShort},
		{[]byte{1, 97}, 0, api.ErrLong},
		{[]byte{1, 97}, -7, api.ErrLong},
		{[]byte{129, 255}, 9, api.ErrPad},
		{[]byte{129, 255}, 0, api.ErrLong},
		{[]byte{130, 255}, 9, api.ErrShort},
		{[]byte{130, 31, 255}, 9, api.ErrPad},
		{[]byte{132, 255, 255, 255, 255}, 9, api.ErrEnd},
		{[]byte{131, 255, 255, 255, 255}, 9, api.ErrPad},
	} {
		wrong(t, c.b, c.most, c.want)
	}
	if got, at, e := strlit.Get([]byte{1, 255}, 1); got.S != "\xff" || got.Short || at != 2 || e != api.OK {
		t.Error("what is not short is no code: ", got, at, e)
	}
	if got, at, e := strlit.Get([]byte{127, 128, 0, 1}, 200); e != api.ErrShort || at != 0 || got.S != "" {
		t.Error(got, at, e)
	}
	b := append([]byte{127, 128, 0}, strings.Repeat("q", 127)...)
	if got, at, e := strlit.Get(b, 127); e != api.OK || at != 130 || got.S != strings.Repeat("q", 127) {
		t.Error("a number of more bytes than it takes: ", got, at, e)
	}
}

func TestP192Any(t *testing.T) {
	r := rand.New(rand.NewSource(192))
	for range 200000 {
		b := make([]byte, r.Intn(8))
		r.Read(b)
		if len(b) > 0 && r.Intn(4) > 0 {
			b[0] = b[0]&128 | byte(r.Intn(8))
		}
		most := r.Intn(10) - 1
		got, at, e := strlit.Get(b, most)
		want, wantAt, fault := get(b, most)
		if got != want || at != wantAt || e != fault {
			t.Fatalf("Get(%v, %d): %v, %d, %d, want %v, %d, %d", b, most, got, at, e, want, wantAt, fault)
		}
	}
}

// get goes by the document's words.
func get(b []byte, most int) (strlit.Text, int, api.Errno) {
	n, at, e := prefix.Get(b, 7)
	switch {
	case e != api.OK:
		return strlit.Text{}, 0, e
	case most < 0 && n > 0, most >= 0 && n > most:
		return strlit.Text{}, 0, api.ErrLong
	case at+n > len(b):
		return strlit.Text{}, 0, api.ErrShort
	case b[0] < 128:
		return strlit.Text{S: string(b[at : at+n])}, at + n, api.OK
	}
	text, e := huff.Decode(b[at : at+n])
	if e != api.OK {
		return strlit.Text{}, 0, e
	}
	return strlit.Text{S: string(text), Short: true}, at + n, api.OK
}

func TestP193Back(t *testing.T) {
	r := rand.New(rand.NewSource(193))
	for range 5000 {
		x := make([]byte, r.Intn(300))
		r.Read(x)
		want := strlit.Text{S: string(x), Short: r.Intn(2) == 0}
		b := strlit.Put(want.S, want.Short)
		if got, at, e := strlit.Get(b, len(b)); got != want || at != len(b) || e != api.OK {
			t.Fatalf("%q, %v: %q, %v, %d, %d", want.S, want.Short, got.S, got.Short, at, e)
		}
	}
}

func TestP2Apart(t *testing.T) {
	b := []byte{2, 97, 98}
	got, _, _ := strlit.Get(b, 9)
	b[1] = 0
	if got.S != "ab" {
		t.Error("a text is kept where it stood")
	}
	x, y := strlit.Put("ab", false), strlit.Put("ab", false)
	x[1] = 0
	if y[1] != 97 {
		t.Error("two answers share what they have")
	}
}

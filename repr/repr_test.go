package repr_test

import (
	"bytes"
	"math"
	"math/rand"
	"strings"
	"testing"

	"stickler/api"
	"stickler/prefix"
	"stickler/repr"
	"stickler/strlit"
)

const top = 1<<31 - 1

func number(first, bits, n int) []byte {
	b, e := prefix.Put(first, bits, n)
	if e != api.OK {
		panic(e)
	}
	return b
}

func joined(parts ...[]byte) []byte {
	return bytes.Join(parts, nil)
}

// bytesOf goes by the document's words, of one that is right.
func bytesOf(r repr.Repr) []byte {
	switch r.Kind {
	case repr.Indexed:
		return number(128, 7, r.Index)
	case repr.Resize:
		return number(32, 5, r.Size)
	}
	b := number(0, 4, r.Index)
	if r.Kind == repr.Never {
		b = number(16, 4, r.Index)
	}
	if r.Kind == repr.Added {
		b = number(64, 6, r.Index)
	}
	if r.Index == 0 {
		b = append(b, strlit.Put(r.Name.S, r.Name.Short)...)
	}
	return append(b, strlit.Put(r.Value.S, r.Value.Short)...)
}

var numbers = []int{0, 1, 2, 14, 15, 16, 30, 31, 32, 61, 62, 63, 64, 126, 127, 128, 255, 300, 70000, top - 1, top}

var texts = []strlit.Text{{}, {Short: true}, {S: "a"}, {S: "ab", Short: true}, {S: "\x00\xff"}, {S: strings.Repeat("v", 200)}, {S: strings.Repeat("v", 200), Short: true}}

// rights are some that are right.
func rights() []repr.Repr {
	var l []repr.Repr
	for _, n := range numbers {
		if n > 0 {
			l = append(l, repr.Repr{Kind: repr.Indexed, Index: n})
		}
		l = append(l, repr.Repr{Kind: repr.Resize, Size: n})
		for _, kind := range []int{repr.Added, repr.Plain, repr.Never} {
			for _, value := range texts {
				r := repr.Repr{Kind: kind, Index: n, Value: value}
				l = append(l, r)
				for _, name := range texts {
					if r.Name = name; n == 0 {
						l = append(l, r)
					}
				}
			}
		}
	}
	return l
}

func TestP221Right(t *testing.T) {
	for _, r := range rights() {
		if !repr.Right(r) {
			t.Errorf("%.80v is not right", r)
		}
		if b, e := repr.Put(r); e != api.OK || !bytes.Equal(b, bytesOf(r)) {
			t.Errorf("Put(%.80v): %v, %d, want %v", r, b, e, bytesOf(r))
		}
	}
	if repr.Indexed != 1 || repr.Added != 2 || repr.Plain != 3 || repr.Never != 4 || repr.Resize != 5 {
		t.Error("kinds have other numbers")
	}
}

func wrong(t *testing.T, r repr.Repr) {
	t.Helper()
	if repr.Right(r) {
		t.Errorf("%v is right", r)
	}
	if b, e := repr.Put(r); len(b) != 0 || e != api.ErrArg {
		t.Errorf("Put(%v): %v, %d", r, b, e)
	}
}

func TestP221Wrong(t *testing.T) {
	for _, kind := range []int{math.MinInt, -1, 0, 6, 7, 128, 1 << 32, math.MaxInt} {
		wrong(t, repr.Repr{Kind: kind})
		wrong(t, repr.Repr{Kind: kind, Index: 1})
		wrong(t, repr.Repr{Kind: kind, Size: 1})
	}
	wrong(t, repr.Repr{})
	wrong(t, repr.Repr{Kind: repr.Indexed})
	some := []strlit.Text{{S: "a"}, {Short: true}, {S: "a", Short: true}}
	for _, n := range []int{math.MinInt, -1 << 32, -1, 1 << 31, 1<<31 + 1, 1 << 32, math.MaxInt} {
		wrong(t, repr.Repr{Kind: repr.Resize, Size: n})
		for kind := repr.Indexed; kind <= repr.Resize; kind++ {
			wrong(t, repr.Repr{Kind: kind, Index: n})
			wrong(t, repr.Repr{Kind: kind, Index: n, Size: -n})
			if kind != repr.Resize {
				wrong(t, repr.Repr{Kind: kind, Index: 1, Size: n})
				wrong(t, repr.Repr{Kind: kind, Size: n})
			}
		}
	}
	for _, n := range []int{1, 2, 62, top} {
		wrong(t, repr.Repr{Kind: repr.Resize, Index: n})
		wrong(t, repr.Repr{Kind: repr.Resize, Index: n, Size: n})
		for kind := repr.Indexed; kind < repr.Resize; kind++ {
			wrong(t, repr.Repr{Kind: kind, Index: n, Size: 1})
			for _, text := range some {
				wrong(t, repr.Repr{Kind: kind, Index: n, Name: text})
			}
		}
		for _, text := range some {
			wrong(t, repr.Repr{Kind: repr.Indexed, Index: n, Value: text})
			wrong(t, repr.Repr{Kind: repr.Resize, Size: n, Value: text})
			wrong(t, repr.Repr{Kind: repr.Resize, Size: n, Name: text})
		}
	}
	for _, text := range some {
		wrong(t, repr.Repr{Kind: repr.Resize, Name: text})
		wrong(t, repr.Repr{Kind: repr.Resize, Value: text})
		wrong(t, repr.Repr{Kind: repr.Indexed, Value: text})
	}
}

func TestP221Known(t *testing.T) {
	for _, c := range []struct {
		r repr.Repr
		b []byte
	}{
		{repr.Repr{Kind: repr.Indexed, Index: 2}, []byte{130}},
		{repr.Repr{Kind: repr.Indexed, Index: 127}, []byte{255, 0}},
		{repr.Repr{Kind: repr.Added, Name: strlit.Text{S: "a"}}, []byte{64, 1, 97, 0}},
		{repr.Repr{Kind: repr.Added, Index: 63, Value: strlit.Text{S: "a"}}, []byte{127, 0, 1, 97}},
		{repr.Repr{Kind: repr.Plain, Index: 4, Value: strlit.Text{S: "ab", Short: true}}, []byte{4, 130, 28, 127}},
		{repr.Repr{Kind: repr.Never, Name: strlit.Text{S: "a", Short: true}, Value: strlit.Text{S: "b"}}, []byte{16, 129, 31, 1, 98}},
		{repr.Repr{Kind: repr.Never, Index: 15}, []byte{31, 0, 0}},
		{repr.Repr{Kind: repr.Resize}, []byte{32}},
		{repr.Repr{Kind: repr.Resize, Size: 31}, []byte{63, 0}},
	} {
		if b, e := repr.Put(c.r); e != api.OK || !bytes.Equal(b, c.b) {
			t.Errorf("Put(%v): %v, %d", c.r, b, e)
		}
		if r, n, e := repr.Get(c.b); e != api.OK || r != c.r || n != len(c.b) {
			t.Errorf("Get(%v): %v, %d, %d", c.b, r, n, e)
		}
	}
}

// get goes by the document's words.
func get(b []byte) (repr.Repr, int, api.Errno) {
	if len(b) == 0 {
		return repr.Repr{}, 0, api.ErrShort
	}
	r, bits := repr.Repr{Kind: repr.Plain}, 4
	switch x := b[0]; {
	case x >= 128:
		r.Kind, bits = repr.Indexed, 7
	case x >= 64:
		r.Kind, bits = repr.Added, 6
	case x >= 32:
		r.Kind, bits = repr.Resize, 5
	case x >= 16:
		r.Kind = repr.Never
	}
	n, at, e := prefix.Get(b, bits)
	if e == api.OK && r.Kind == repr.Resize {
		r.Size = n
		return r, at, e
	}
	if r.Index = n; e == api.OK && r.Kind == repr.Indexed {
		if n == 0 {
			return repr.Repr{}, 0, api.ErrIndex
		}
		return r, at, e
	}
	m := 0
	if e == api.OK && n == 0 {
		r.Name, m, e = strlit.Get(b[at:], len(b))
		at += m
	}
	if e == api.OK {
		r.Value, m, e = strlit.Get(b[at:], len(b))
		at += m
	}
	if e != api.OK {
		return repr.Repr{}, 0, e
	}
	return r, at, e
}

func look(t *testing.T, b []byte) {
	t.Helper()
	given := bytes.Clone(b)
	r, n, e := repr.Get(b)
	want, wantN, fault := get(b)
	if r != want || n != wantN || e != fault {
		t.Fatalf("Get(%v): %v, %d, %d, want %v, %d, %d", b, r, n, e, want, wantN, fault)
	}
	if !bytes.Equal(b, given) {
		t.Fatal("Get changes what it is given")
	}
	if e == api.OK && !repr.Right(r) {
		t.Fatalf("Get(%v) is not right: %v", b, r)
	}
}

func TestP222Any(t *testing.T) {
	look(t, nil)
	look(t, []byte{})
	for x := range 256 {
		look(t, []byte{byte(x)})
		for y := range 256 {
			look(t, []byte{byte(x), byte(y)})
			look(t, []byte{byte(x), byte(y), 0, 0, 0})
			look(t, []byte{byte(x), 1, 97, byte(y), 98})
		}
	}
	r := rand.New(rand.NewSource(222))
	for range 100000 {
		b := make([]byte, 1+r.Intn(9))
		for i := range b {
			b[i] = byte(r.Intn(256)) & byte(r.Intn(256))
		}
		look(t, b)
	}
}

func TestP222Faults(t *testing.T) {
	for _, c := range []struct {
		b    []byte
		want api.Errno
	}{
		{nil, api.ErrShort},
		{[]byte{128}, api.ErrIndex},
		{[]byte{128, 0}, api.ErrIndex},
		{[]byte{255}, api.ErrShort},
		{[]byte{63, 128}, api.ErrShort},
		{[]byte{15}, api.ErrShort},
		{[]byte{127, 255, 255, 255, 255, 255}, api.ErrRange},
		{[]byte{63, 255, 255, 255, 255, 15}, api.ErrRange},
		{[]byte{64}, api.ErrShort},
		{[]byte{64, 0}, api.ErrShort},
		{[]byte{65}, api.ErrShort},
		{[]byte{0, 1, 97}, api.ErrShort},
		{[]byte{0, 3, 97, 0}, api.ErrShort},
		{[]byte{0, 4, 97, 0}, api.ErrShort},
		{[]byte{0, 5, 97, 0}, api.ErrLong},
		{[]byte{1, 2, 97}, api.ErrShort},
		{[]byte{1, 3, 97}, api.ErrShort},
		{[]byte{1, 4, 97}, api.ErrLong},
		{[]byte{16, 129, 255, 129, 31}, api.ErrPad},
		{[]byte{16, 129, 31, 129, 255}, api.ErrPad},
		{[]byte{16, 132, 255, 255, 255, 255, 129, 31}, api.ErrEnd},
		{[]byte{17, 132, 255, 255, 255, 255}, api.ErrEnd},
		{[]byte{16, 129, 255, 9}, api.ErrPad},
		{[]byte{16, 9, 97, 129, 255}, api.ErrLong},
		{[]byte{16, 1, 97, 127, 128, 128, 128, 128, 128}, api.ErrRange},
	} {
		if r, n, e := repr.Get(c.b); r != (repr.Repr{}) || n != 0 || e != c.want {
			t.Errorf("Get(%v): %v, %d, %d, want %d", c.b, r, n, e, c.want)
		}
	}
}

func TestP223Back(t *testing.T) {
	for _, want := range rights() {
		b, e := repr.Put(want)
		if e != api.OK {
			t.Fatal(want, e)
		}
		for _, l := range [][]byte{b, joined(b, []byte{255}), joined(b, b)} {
			if r, n, e := repr.Get(l); r != want || n != len(b) || e != api.OK {
				t.Errorf("Get(%.80v): %.80v, %d, %d", l, r, n, e)
			}
		}
	}
}

func TestP2Apart(t *testing.T) {
	x, _ := repr.Put(repr.Repr{Kind: repr.Indexed, Index: 5})
	y, _ := repr.Put(repr.Repr{Kind: repr.Indexed, Index: 5})
	x[0] = 0
	if y[0] != 133 {
		t.Error("two answers share what they have")
	}
	b := []byte{64, 1, 97, 1, 98}
	r, _, _ := repr.Get(b)
	clear(b)
	if r.Name.S != "a" || r.Value.S != "b" {
		t.Error("a text is kept where it stood")
	}
}

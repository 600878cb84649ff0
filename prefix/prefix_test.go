package prefix_test

import (
	"bytes"
	"math"
	"math/rand"
	"testing"

	"stickler/api"
	"stickler/prefix"
)

var edges = []int{0, 1, 2, 5, 6, 7, 8, 14, 15, 16, 30, 31, 32, 62, 63, 64, 126, 127, 128, 129, 158, 159, 254, 255, 256, 381, 382, 383,
	1337, 16383, 16384, 16510, 16511, 16512, 16638, 16639, 16640, 1 << 21, 1<<21 + 254, 1<<21 + 255, 1 << 28, 1<<28 + 126, 1<<28 + 127, 1<<31 - 2, 1<<31 - 1}

// put goes by the document's words.
func put(first, bits, n int) []byte {
	full := int(math.Pow(2, float64(bits))) - 1
	if n < full {
		return []byte{byte(first + n)}
	}
	b := []byte{byte(first + full)}
	n -= full
	var places []int
	for {
		places = append(places, n%128)
		n /= 128
		if n == 0 {
			break
		}
	}
	for i, x := range places {
		if i < len(places)-1 {
			x += 128
		}
		b = append(b, byte(x))
	}
	return b
}

// get goes by the document's words.
func get(b []byte, bits int) (int, int, api.Errno) {
	if bits < 1 || bits > 8 {
		return 0, 0, api.ErrArg
	}
	if len(b) == 0 {
		return 0, 0, api.ErrShort
	}
	full := int(math.Pow(2, float64(bits))) - 1
	if n := int(b[0]) % (full + 1); n < full {
		return n, 1, api.OK
	}
	last := 0
	for i := 1; i < len(b) && i <= 5 && last == 0; i++ {
		if b[i] < 128 {
			last = i
		}
	}
	if last == 0 && len(b) > 5 {
		return 0, 0, api.ErrRange
	}
	if last == 0 {
		return 0, 0, api.ErrShort
	}
	n := 0
	for i := last; i > 0; i-- {
		n = n*128 + int(b[i])%128
	}
	if n += full; n > 1<<31-1 {
		return 0, 0, api.ErrRange
	}
	return n, last + 1, api.OK
}

func lookPut(t *testing.T, first, bits, n int) {
	t.Helper()
	b, e := prefix.Put(first, bits, n)
	if want := put(first, bits, n); e != api.OK || !bytes.Equal(b, want) {
		t.Fatalf("Put(%d, %d, %d): %v, %d, want %v", first, bits, n, b, e, want)
	}
	for _, behind := range [][]byte{nil, {0}, {127}, {128, 255}} {
		if got, at, e := prefix.Get(append(bytes.Clone(b), behind...), bits); got != n || at != len(b) || e != api.OK {
			t.Fatalf("Get(%v, %d): %d, %d, %d, want %d, %d", b, bits, got, at, e, n, len(b))
		}
	}
	for i := range b {
		if got, at, e := prefix.Get(b[:i], bits); got != 0 || at != 0 || e != api.ErrShort {
			t.Fatalf("Get(%v, %d): %d, %d, %d", b[:i], bits, got, at, e)
		}
	}
}

func lookGet(t *testing.T, b []byte, bits int) {
	t.Helper()
	given := bytes.Clone(b)
	n, at, e := prefix.Get(b, bits)
	wantN, wantAt, want := get(b, bits)
	if n != wantN || at != wantAt || e != want {
		t.Fatalf("Get(%v, %d): %d, %d, %d, want %d, %d, %d", b, bits, n, at, e, wantN, wantAt, want)
	}
	if !bytes.Equal(b, given) {
		t.Fatal("Get changes what it is given")
	}
}

func TestP181Put(t *testing.T) {
	for bits := 1; bits <= 8; bits++ {
		for first := 0; first < 256; first += 1 << bits {
			for _, n := range edges {
				lookPut(t, first, bits, n)
			}
		}
	}
	r := rand.New(rand.NewSource(181))
	for range 20000 {
		bits := 1 + r.Intn(8)
		lookPut(t, r.Intn(256)>>bits<<bits, bits, r.Intn(1<<(1+r.Intn(31))))
	}
	if b, e := prefix.Put(0, 5, 1337); e != api.OK || !bytes.Equal(b, []byte{31, 154, 10}) {
		t.Error(b, e)
	}
	if b, e := prefix.Put(0, 5, 10); e != api.OK || !bytes.Equal(b, []byte{10}) {
		t.Error(b, e)
	}
	if b, e := prefix.Put(224, 5, 31); e != api.OK || !bytes.Equal(b, []byte{255, 0}) {
		t.Error(b, e)
	}
	if b, e := prefix.Put(0, 8, 1<<31-1); e != api.OK || !bytes.Equal(b, []byte{255, 128, 254, 255, 255, 7}) {
		t.Error(b, e)
	}
}

func TestP181Wrong(t *testing.T) {
	wrong := func(first, bits, n int, want api.Errno) {
		t.Helper()
		if b, e := prefix.Put(first, bits, n); len(b) != 0 || e != want {
			t.Errorf("Put(%d, %d, %d): %v, %d, want %d", first, bits, n, b, e, want)
		}
	}
	numbers := []int{math.MinInt, -1, 0, 5, 1<<31 - 1, 1 << 31, math.MaxInt}
	for _, n := range numbers {
		for _, bits := range []int{math.MinInt, -1, 0, 9, 10, 31, 32, 63, 64, 65, math.MaxInt} {
			wrong(0, bits, n, api.ErrArg)
			wrong(-1, bits, n, api.ErrArg)
		}
		for bits := 1; bits <= 8; bits++ {
			for _, first := range []int{math.MinInt, -256, -1, 256, 257, 512, 1 << 32, math.MaxInt} {
				wrong(first, bits, n, api.ErrArg)
			}
			for first := range 256 {
				if first%(1<<bits) != 0 {
					wrong(first, bits, n, api.ErrArg)
				}
			}
		}
	}
	for bits := 1; bits <= 8; bits++ {
		for _, n := range []int{math.MinInt, -1 << 32, -2, -1, 1 << 31, 1<<31 + 1, 1 << 32, math.MaxInt} {
			wrong(0, bits, n, api.ErrRange)
			wrong(256-1<<bits, bits, n, api.ErrRange)
		}
	}
}

func TestP182Short(t *testing.T) {
	for bits := 1; bits <= 8; bits++ {
		lookGet(t, nil, bits)
		lookGet(t, []byte{}, bits)
		for x := range 256 {
			lookGet(t, []byte{byte(x)}, bits)
		}
		for x := range 1 << 16 {
			lookGet(t, []byte{byte(x >> 8), byte(x)}, bits)
		}
	}
}

func TestP182Any(t *testing.T) {
	r := rand.New(rand.NewSource(182))
	for range 200000 {
		b := make([]byte, 1+r.Intn(9))
		for i := range b {
			b[i] = byte(r.Intn(256))
			if r.Intn(4) > 0 {
				b[i] |= 128
			}
		}
		if r.Intn(4) > 0 {
			b[0] = 255
		}
		lookGet(t, b, 1+r.Intn(8))
	}
}

func TestP182Edges(t *testing.T) {
	for _, c := range []struct {
		bits int
		b    []byte
		n    int
		at   int
		e    api.Errno
	}{
		{5, []byte{31, 154, 10}, 1337, 3, api.OK},
		{5, []byte{10}, 10, 1, api.OK},
		{5, []byte{0xea}, 10, 1, api.OK},
		{8, []byte{42}, 42, 1, api.OK},
		{8, []byte{254, 9}, 254, 1, api.OK},
		{8, []byte{255, 0}, 255, 2, api.OK},
		{1, []byte{254}, 0, 1, api.OK},
		{1, []byte{1, 0}, 1, 2, api.OK},
		{5, []byte{31, 128, 0}, 31, 3, api.OK},
		{5, []byte{31, 128, 128, 128, 128, 0}, 31, 6, api.OK},
		{5, []byte{31, 154, 138, 128, 0, 9}, 1337, 5, api.OK},
		{5, []byte{31, 128, 128, 128, 128, 128}, 0, 0, api.ErrRange},
		{5, []byte{31, 128, 128, 128, 128, 128, 0}, 0, 0, api.ErrRange},
		{5, []byte{31, 128, 128, 128, 128}, 0, 0, api.ErrShort},
		{5, []byte{31, 255, 255, 255, 255}, 0, 0, api.ErrShort},
		{5, []byte{31, 255, 255, 255, 255, 255}, 0, 0, api.ErrRange},
		{5, []byte{31}, 0, 0, api.ErrShort},
		{5, []byte{31, 224, 255, 255, 255, 7}, 1<<31 - 1, 6, api.OK},
		{5, []byte{31, 225, 255, 255, 255, 7}, 0, 0, api.ErrRange},
		{5, []byte{31, 128, 128, 128, 128, 8}, 0, 0, api.ErrRange},
		{5, []byte{31, 255, 255, 255, 255, 127}, 0, 0, api.ErrRange},
		{8, []byte{255, 128, 254, 255, 255, 7}, 1<<31 - 1, 6, api.OK},
		{8, []byte{255, 129, 254, 255, 255, 7}, 0, 0, api.ErrRange},
		{1, []byte{1, 254, 255, 255, 255, 7}, 1<<31 - 1, 6, api.OK},
		{1, []byte{1, 255, 255, 255, 255, 7}, 0, 0, api.ErrRange},
	} {
		if n, at, e := prefix.Get(c.b, c.bits); n != c.n || at != c.at || e != c.e {
			t.Errorf("Get(%v, %d): %d, %d, %d, want %d, %d, %d", c.b, c.bits, n, at, e, c.n, c.at, c.e)
		}
	}
	for _, bits := range []int{math.MinInt, -8, -1, 0, 9, 16, 63, 64, math.MaxInt} {
		for _, b := range [][]byte{nil, {0}, {255}, {255, 0}, {255, 255, 255, 255, 255, 255}} {
			if n, at, e := prefix.Get(b, bits); n != 0 || at != 0 || e != api.ErrArg {
				t.Errorf("Get(%v, %d): %d, %d, %d", b, bits, n, at, e)
			}
		}
	}
}

func TestP183Back(t *testing.T) {
	for bits := 1; bits <= 8; bits++ {
		for n := range 70000 {
			b, e := prefix.Put(0, bits, n)
			if got, at, f := prefix.Get(b, bits); e != api.OK || f != api.OK || got != n || at != len(b) {
				t.Fatalf("%d of %d bits: %v, %d, %d", n, bits, b, got, at)
			}
		}
	}
}

func TestP2Apart(t *testing.T) {
	for _, n := range []int{3, 40, 1 << 30} {
		x, _ := prefix.Put(64, 4, n)
		y, _ := prefix.Put(64, 4, n)
		x[0] = 0
		if y[0]&64 == 0 {
			t.Error("two answers share what they have")
		}
	}
}

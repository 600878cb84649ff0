package codebook_test

import (
	"math"
	"math/rand"
	"slices"
	"testing"

	"stickler/codebook"
)

const longest = 30

// byLength are the symbols of each length that codes have, the shortest first.
var byLength = []struct {
	length  int
	symbols []int
}{
	{5, []int{48, 49, 50, 97, 99, 101, 105, 111, 115, 116}},
	{6, []int{32, 37, 45, 46, 47, 51, 52, 53, 54, 55, 56, 57, 61, 65, 95, 98, 100, 102, 103, 104, 108, 109, 110, 112, 114, 117}},
	{7, []int{58, 66, 67, 68, 69, 70, 71, 72, 73, 74, 75, 76, 77, 78, 79, 80, 81, 82, 83, 84, 85, 86, 87, 89, 106, 107, 113, 118, 119, 120, 121, 122}},
	{8, []int{38, 42, 44, 59, 88, 90}},
	{10, []int{33, 34, 40, 41, 63}},
	{11, []int{39, 43, 124}},
	{12, []int{35, 62}},
	{13, []int{0, 36, 64, 91, 93, 126}},
	{14, []int{94, 125}},
	{15, []int{60, 96, 123}},
	{19, []int{92, 195, 208}},
	{20, []int{128, 130, 131, 162, 184, 194, 224, 226}},
	{21, []int{153, 161, 167, 172, 176, 177, 179, 209, 216, 217, 227, 229, 230}},
	{22, []int{129, 132, 133, 134, 136, 146, 154, 156, 160, 163, 164, 169, 170, 173, 178, 181, 185, 186, 187, 189, 190, 196, 198, 228, 232, 233}},
	{23, []int{1, 135, 137, 138, 139, 140, 141, 143, 147, 149, 150, 151, 152, 155, 157, 158, 165, 166, 168, 174, 175, 180, 182, 183, 188, 191, 197, 231, 239}},
	{24, []int{9, 142, 144, 145, 148, 159, 171, 206, 215, 225, 236, 237}},
	{25, []int{199, 207, 234, 235}},
	{26, []int{192, 193, 200, 201, 202, 205, 210, 213, 218, 219, 238, 240, 242, 243, 255}},
	{27, []int{203, 204, 211, 212, 214, 221, 222, 223, 241, 244, 245, 246, 247, 248, 250, 251, 252, 253, 254}},
	{28, []int{2, 3, 4, 5, 6, 7, 8, 11, 12, 14, 15, 16, 17, 18, 19, 20, 21, 23, 24, 25, 26, 27, 28, 29, 30, 31, 127, 220, 249}},
	{30, []int{10, 13, 22, 256}},
}

// model is each symbol's code as the text of its bits, counted up by hand.
func model() map[string]int {
	codes := map[string]int{}
	bits := []byte{}
	for _, l := range byLength {
		for _, symbol := range l.symbols {
			if len(codes) > 0 {
				bits = raised(bits)
			}
			for len(bits) < l.length {
				bits = append(bits, '0')
			}
			codes[string(bits)] = symbol
		}
	}
	return codes
}

func raised(bits []byte) []byte {
	for i := len(bits) - 1; i >= 0; i-- {
		if bits[i] == '0' {
			bits[i] = '1'
			break
		}
		bits[i] = '0'
	}
	return bits
}

func text(code, length int) string {
	b := make([]byte, length)
	for i := range b {
		b[i] = byte('0' + code>>(length-1-i)&1)
	}
	return string(b)
}

// nobodys are books without symbols.
func nobodys() []*codebook.Book {
	return []*codebook.Book{nil, {}, new(codebook.Book)}
}

var noSymbols = []int{math.MinInt, -257, -2, -1, 257, 258, 512, 1 << 32, math.MaxInt}

func TestP161Codes(t *testing.T) {
	b := codebook.Make()
	codes := model()
	if len(codes) != 257 {
		t.Fatal(len(codes))
	}
	for bits, symbol := range codes {
		code, n := b.Code(symbol)
		if n != len(bits) || text(code, n) != bits {
			t.Errorf("Code(%d): %d, %d, want %s", symbol, code, n, bits)
		}
		if n := b.Length(symbol); n != len(bits) {
			t.Errorf("Length(%d): %d, want %d", symbol, n, len(bits))
		}
	}
}

func TestP161Known(t *testing.T) {
	b := codebook.Make()
	for _, c := range []struct{ symbol, code, length int }{
		{48, 0, 5}, {97, 3, 5}, {116, 9, 5}, {32, 20, 6}, {117, 0x2d, 6}, {58, 0x5c, 7}, {122, 0x7b, 7}, {38, 0xf8, 8}, {90, 0xfd, 8},
		{33, 0x3f8, 10}, {124, 0x7fc, 11}, {35, 0xffa, 12}, {0, 0x1ff8, 13}, {94, 0x3ffc, 14}, {60, 0x7ffc, 15}, {92, 0x7fff0, 19},
		{128, 0xfffe6, 20}, {153, 0x1fffdc, 21}, {129, 0x3fffd2, 22}, {1, 0x7fffd8, 23}, {9, 0xffffea, 24}, {199, 0x1ffffec, 25},
		{192, 0x3ffffe0, 26}, {255, 0x3ffffee, 26}, {203, 0x7ffffde, 27}, {2, 0xfffffe2, 28}, {249, 0xffffffe, 28},
		{10, 0x3ffffffc, 30}, {13, 0x3ffffffd, 30}, {22, 0x3ffffffe, 30}, {codebook.End, 1<<30 - 1, 30},
	} {
		if code, n := b.Code(c.symbol); code != c.code || n != c.length || b.Length(c.symbol) != c.length {
			t.Errorf("Code(%d): %d, %d, want %d, %d", c.symbol, code, n, c.code, c.length)
		}
	}
	if codebook.End != 256 {
		t.Error(codebook.End)
	}
}

func TestP161NoSymbol(t *testing.T) {
	b := codebook.Make()
	for _, symbol := range noSymbols {
		if code, n := b.Code(symbol); code != 0 || n != 0 || b.Length(symbol) != 0 {
			t.Errorf("Code(%d): %d, %d", symbol, code, n)
		}
	}
	for _, b := range nobodys() {
		for symbol := -1; symbol <= 257; symbol++ {
			if code, n := b.Code(symbol); code != 0 || n != 0 || b.Length(symbol) != 0 {
				t.Errorf("of nobody: Code(%d): %d, %d", symbol, code, n)
			}
		}
	}
}

func TestP162Find(t *testing.T) {
	b := codebook.Make()
	codes := model()
	look := func(code, length int) {
		symbol, is := codes[text(code, length)]
		if got, ok := b.Find(code, length); got != symbol || ok != is {
			t.Errorf("Find(%d, %d): %d, %v, want %d, %v", code, length, got, ok, symbol, is)
		}
	}
	for bits, symbol := range codes {
		if got, ok := b.Find(b.Code(symbol)); got != symbol || !ok {
			t.Errorf("Find of %d: %d, %v", symbol, got, ok)
		}
		code, n := b.Code(symbol)
		for length := 1; length <= longest; length++ {
			for _, near := range []int{code - 1, code, code + 1} {
				if near >= 0 && near < 1<<length {
					look(near, length)
				}
			}
		}
		if n != len(bits) {
			t.Fatal(bits)
		}
	}
	for length := 1; length <= 16; length++ {
		for code := range 1 << length {
			look(code, length)
		}
	}
	r := rand.New(rand.NewSource(16))
	for range 20000 {
		length := 1 + r.Intn(longest)
		look(r.Intn(1<<length), length)
		look(1<<length-1-r.Intn(1<<min(length, 7)), length)
	}
}

func TestP162FindNone(t *testing.T) {
	b := codebook.Make()
	lengths := []int{math.MinInt, -5, -1, 0, 1, 4, 5, 6, 9, 16, 29, 30, 31, 32, 33, 63, 64, 1 << 32, math.MaxInt}
	wrong := []int{math.MinInt, math.MinInt + 1, -1 << 32, -257, -1, 1 << 30, 1<<30 + 1, 1 << 32, math.MaxInt - 1, math.MaxInt}
	for _, length := range lengths {
		for _, code := range wrong {
			if symbol, ok := b.Find(code, length); symbol != 0 || ok {
				t.Errorf("Find(%d, %d): %d, %v", code, length, symbol, ok)
			}
		}
		if length >= 1 && length <= longest {
			continue
		}
		for code := range 64 {
			if symbol, ok := b.Find(code, length); symbol != 0 || ok {
				t.Errorf("Find(%d, %d): %d, %v", code, length, symbol, ok)
			}
		}
	}
	if symbol, ok := b.Find(32, 5); symbol != 0 || ok {
		t.Error("a code of more bits than it has: ", symbol)
	}
	for _, b := range nobodys() {
		for length := -1; length <= 32; length++ {
			if symbol, ok := b.Find(0, length); symbol != 0 || ok {
				t.Errorf("of nobody: Find(0, %d): %d, %v", length, symbol, ok)
			}
		}
	}
}

func TestP162Order(t *testing.T) {
	b := codebook.Make()
	var want []int
	for _, l := range byLength {
		want = append(want, l.symbols...)
	}
	got := b.Order()
	if !slices.Equal(got, want) {
		t.Fatal(got)
	}
	for i := range got {
		got[i] = -1
	}
	if !slices.Equal(b.Order(), want) {
		t.Error("Order hands out what it keeps")
	}
	if symbol, ok := b.Find(0, 5); symbol != 48 || !ok {
		t.Error(symbol, ok)
	}
	_ = append(b.Order()[:3], 7)
	if !slices.Equal(b.Order(), want) || !slices.Equal(codebook.Make().Order(), want) {
		t.Error("Order is not the same again")
	}
	for _, b := range nobodys() {
		if l := b.Order(); len(l) != 0 {
			t.Error(l)
		}
	}
}

func TestP163NoCodeBeginsAnother(t *testing.T) {
	b := codebook.Make()
	room := 0
	for x := range 257 {
		code, n := b.Code(x)
		room += 1 << (longest - n)
		for y := range 257 {
			other, m := b.Code(y)
			if x != y && m >= n && other>>(m-n) == code {
				t.Errorf("%d begins %d", x, y)
			}
		}
	}
	if room != 1<<longest {
		t.Error("codes leave bits that none of them begins, or more: ", room)
	}
}

func TestP163OneBegins(t *testing.T) {
	b := codebook.Make()
	r := rand.New(rand.NewSource(163))
	for i := range 20000 {
		bits := r.Intn(1 << longest)
		if i%2 == 0 {
			bits |= 1<<longest - 1<<r.Intn(longest)
		}
		begin := 0
		for n := 1; n <= longest; n++ {
			if _, ok := b.Find(bits>>(longest-n), n); ok {
				begin++
			}
		}
		if begin != 1 {
			t.Fatalf("%030b: %d codes begin it", bits, begin)
		}
	}
}

func TestP2Apart(t *testing.T) {
	x, y := codebook.Make(), codebook.Make()
	if x == y {
		t.Error("one book twice")
	}
	for symbol := range 257 {
		a, n := x.Code(symbol)
		if b, m := y.Code(symbol); a != b || n != m {
			t.Error(symbol, a, n, b, m)
		}
	}
}

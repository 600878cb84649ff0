package huff_test

import (
	"bytes"
	"encoding/hex"
	"math/rand"
	"strings"
	"testing"

	"stickler/api"
	"stickler/codebook"
	"stickler/huff"
)

// known are texts and their codes, from the standard.
var known = []struct{ text, code string }{
	{"", ""},
	{"a", "1f"},
	{"ab", "1c7f"},
	{"0", "07"},
	{"www.example.com", "f1e3c2e5f23a6ba0ab90f4ff"},
	{"no-cache", "a8eb10649cbf"},
	{"custom-key", "25a849e95ba97d7f"},
	{"custom-value", "25a849e95bb8e8b4bf"},
	{"302", "6402"},
	{"307", "640eff"},
	{"gzip", "9bd9ab"},
	{"private", "aec3771a4b"},
	{"Mon, 21 Oct 2013 20:13:21 GMT", "d07abe941054d444a8200595040b8166e082a62d1bff"},
	{"https://www.example.com", "9d29ad171863c78f0b97c8e9ae82ae43d3"},
	{"foo=ASDJKHQKBZXOQWEOPIUAXQWEOIU; max-age=3600; version=1", "94e7821dd7f2e6c7b335dfdfcd5b3960d5af27087f3672c1ab270fb5291f9587316065c003ed4ee5b1063d5007"},
	{"\x00", "ffc7"},
	{"\x0a", "fffffff3"},
	{"\xff", "fffffbbf"},
	{"\xf9", "ffffffef"},
}

func bits(code, length int) string {
	var s strings.Builder
	for i := length - 1; i >= 0; i-- {
		s.WriteByte(byte('0' + code>>i&1))
	}
	return s.String()
}

func bitsOf(b []byte) string {
	var s strings.Builder
	for _, c := range b {
		s.WriteString(bits(int(c), 8))
	}
	return s.String()
}

// packed are bits as bytes, ones behind.
func packed(s string) []byte {
	for len(s)%8 > 0 {
		s += "1"
	}
	b := make([]byte, len(s)/8)
	for i := range s {
		b[i/8] |= (s[i] - '0') << (7 - i%8)
	}
	return b
}

// codes are all symbols' codes as texts of bits.
func codes() ([]string, map[string]int) {
	book := codebook.Make()
	l, of := make([]string, 257), map[string]int{}
	for symbol := range l {
		l[symbol] = bits(book.Code(symbol))
		of[l[symbol]] = symbol
	}
	return l, of
}

// decoded goes by texts of bits as the document tells.
func decoded(b []byte, of map[string]int) ([]byte, api.Errno) {
	left := bitsOf(b)
	var out []byte
	for at := 1; at <= len(left); at++ {
		symbol, is := of[left[:at]]
		if !is {
			continue
		}
		if symbol == codebook.End {
			return nil, api.ErrEnd
		}
		out = append(out, byte(symbol))
		left, at = left[at:], 0
	}
	if len(left) > 7 || strings.Contains(left, "0") {
		return nil, api.ErrPad
	}
	return out, api.OK
}

func look(t *testing.T, b []byte, of map[string]int) {
	t.Helper()
	given := bytes.Clone(b)
	want, fault := decoded(b, of)
	got, e := huff.Decode(b)
	if e != fault || !bytes.Equal(got, want) {
		t.Fatalf("Decode(%x): %q, %d, want %q, %d", b, got, e, want, fault)
	}
	if !bytes.Equal(b, given) {
		t.Fatalf("Decode changes what it is given")
	}
	if e == api.OK && !bytes.Equal(huff.Encode(got), b) {
		t.Fatalf("%x is encoded as %x", b, huff.Encode(got))
	}
}

func TestP171Known(t *testing.T) {
	for _, c := range known {
		want, err := hex.DecodeString(c.code)
		if err != nil {
			t.Fatal(err)
		}
		if b := huff.Encode([]byte(c.text)); !bytes.Equal(b, want) {
			t.Errorf("Encode(%q): %x, want %s", c.text, b, c.code)
		}
		if n := huff.Size([]byte(c.text)); n != len(want) {
			t.Errorf("Size(%q): %d", c.text, n)
		}
		if b, e := huff.Decode(want); e != api.OK || string(b) != c.text {
			t.Errorf("Decode(%s): %q, %d", c.code, b, e)
		}
	}
	if len(huff.Encode(nil)) != 0 || huff.Size(nil) != 0 {
		t.Error("no bytes have codes")
	}
}

func TestP171Encode(t *testing.T) {
	l, _ := codes()
	r := rand.New(rand.NewSource(171))
	for i := range 3000 {
		b := make([]byte, r.Intn(40))
		r.Read(b)
		if i < 256 {
			b = []byte{byte(i)}
		}
		given := bytes.Clone(b)
		all := ""
		for _, c := range b {
			all += l[c]
		}
		want := packed(all)
		got := huff.Encode(b)
		if !bytes.Equal(got, want) || huff.Size(b) != len(want) {
			t.Fatalf("Encode(%x): %x, want %x; Size %d", b, got, want, huff.Size(b))
		}
		if !bytes.Equal(b, given) {
			t.Fatal("Encode changes what it is given")
		}
		if back, e := huff.Decode(got); e != api.OK || !bytes.Equal(back, b) {
			t.Fatalf("Decode(%x): %x, %d", got, back, e)
		}
	}
}

func TestP172Short(t *testing.T) {
	_, of := codes()
	look(t, nil, of)
	look(t, []byte{}, of)
	for x := range 256 {
		look(t, []byte{byte(x)}, of)
	}
	for x := range 1 << 16 {
		look(t, []byte{byte(x >> 8), byte(x)}, of)
	}
}

func TestP172Any(t *testing.T) {
	l, of := codes()
	r := rand.New(rand.NewSource(172))
	for range 20000 {
		b := make([]byte, 1+r.Intn(12))
		for i := range b {
			b[i] = byte(r.Intn(256))
			if r.Intn(2) == 0 {
				b[i] = 255
			}
		}
		look(t, b, of)
	}
	for range 5000 { // texts of codes, with something behind that may be padding
		s := ""
		for range r.Intn(6) {
			s += l[r.Intn(257)]
		}
		s += strings.Repeat("1", r.Intn(12)) + strings.Repeat("0", r.Intn(2)) + strings.Repeat("1", r.Intn(8))
		look(t, packed(s), of)
	}
}

func TestP172Faults(t *testing.T) {
	l, _ := codes()
	ones := func(n int) string { return strings.Repeat("1", n) }
	end := l[codebook.End]
	for _, c := range []struct {
		name, bits string
		want       api.Errno
	}{
		{"nothing", "", api.OK},
		{"no padding, of six bits each", strings.Repeat("010100", 4), api.OK},
		{"eight codes of five bits", strings.Repeat("00011", 8), api.OK},
		{"one bit", strings.Repeat("00011", 5) + "010100" + "1", api.OK},
		{"one bit, a 0", strings.Repeat("00011", 5) + "010100" + "0", api.ErrPad},
		{"three bits", "00011" + "111", api.OK},
		{"three bits, the last one 0", "00011" + "110", api.ErrPad},
		{"three bits, the first one 0", "00011" + "011", api.ErrPad},
		{"three bits, the second one 0", "00011" + "101", api.ErrPad},
		{"seven bits", strings.Repeat("00011", 5) + ones(7), api.OK},
		{"seven bits, the last one 0", strings.Repeat("00011", 5) + ones(6) + "0", api.ErrPad},
		{"eight ones", ones(8), api.ErrPad},
		{"eight ones behind a code", strings.Repeat("00011", 8) + ones(8), api.ErrPad},
		{"eleven ones", "00011" + ones(11), api.ErrPad},
		{"29 ones", "00011" + "010100" + ones(29), api.ErrPad},
		{"End", end, api.ErrEnd},
		{"End, and padding", end + "11", api.ErrEnd},
		{"End, and what is no padding", end + "00", api.ErrEnd},
		{"End, and codes", end + strings.Repeat("00011", 6), api.ErrEnd},
		{"End behind codes", "00011" + "00011" + end, api.ErrEnd},
		{"24 ones", ones(24), api.ErrPad},
	} {
		b := packed(c.bits)
		if got, e := huff.Decode(b); e != c.want || e != api.OK && len(got) != 0 {
			t.Errorf("%s: Decode(%x): %q, %d, want %d", c.name, b, got, e, c.want)
		}
	}
	if got, e := huff.Decode([]byte{31}); e != api.OK || string(got) != "a" {
		t.Error(got, e)
	}
	if got, e := huff.Decode([]byte{31, 255}); e != api.ErrPad || len(got) != 0 {
		t.Error(got, e)
	}
}

func TestP173Back(t *testing.T) {
	r := rand.New(rand.NewSource(173))
	b := make([]byte, 100000)
	r.Read(b)
	x := huff.Encode(b)
	if len(x) != huff.Size(b) {
		t.Error(len(x), huff.Size(b))
	}
	if y, e := huff.Decode(x); e != api.OK || !bytes.Equal(y, b) {
		t.Error(e)
	}
}

func TestP2Apart(t *testing.T) {
	x, y := huff.Encode([]byte("abc")), huff.Encode([]byte("abc"))
	x[0] = 0
	a, _ := huff.Decode(y)
	b, _ := huff.Decode(y)
	a[0] = 0
	if string(b) != "abc" || y[0] == 0 {
		t.Error(y, b)
	}
}

package length_test

import (
	"math/big"
	"math/rand"
	"slices"
	"strings"
	"testing"

	"stickler/api"
	"stickler/length"
)

const name = "content-length"

func fields(values ...string) []api.Field {
	var l []api.Field
	for _, v := range values {
		l = append(l, api.Field{Name: name, Value: v})
	}
	return l
}

func told(n int) length.Length { return length.Length{N: n, Told: true} }

func TestP261Untold(t *testing.T) {
	for _, l := range [][]api.Field{
		nil, {}, {{}}, {{Name: "a", Value: "12"}}, {{Name: "Content-Length", Value: "12"}}, {{Name: ":content-length", Value: "x"}},
		{{Name: "content-length ", Value: "x"}, {Name: "content", Value: "1"}, {Name: "", Value: "content-length"}},
	} {
		if n, ok := length.Of(l); n != (length.Length{}) || !ok {
			t.Errorf("Of(%v): %v, %v", l, n, ok)
		}
	}
}

func TestP261One(t *testing.T) {
	for value, want := range map[string]int{
		"0": 0, "1": 1, "12": 12, "012": 12, "00000": 0, "4294967296": 1 << 32,
		"4503599627370495": 1<<52 - 1, "4503599627370496": 1 << 52, "0004503599627370496": 1 << 52, strings.Repeat("0", 10000) + "7": 7,
	} {
		if n, ok := length.Of(fields(value)); n != told(want) || !ok {
			t.Errorf("Of(%.40q): %v, %v", value, n, ok)
		}
	}
	for _, value := range []string{
		"", "+1", "-1", "-0", " 1", "1 ", "1,1", "1, 1", "0x1", "1.0", "1e1", "a", "\u0661", "\xff", "1\x00", "1_0",
		"4503599627370497", "4503599627370500", "9223372036854775807", "9223372036854775808", "18446744073709551616", "18446744073709551617", strings.Repeat("9", 10000),
	} {
		if n, ok := length.Of(fields(value)); n != (length.Length{}) || ok {
			t.Errorf("Of(%.40q): %v, %v", value, n, ok)
		}
	}
}

func TestP261Many(t *testing.T) {
	for _, c := range []struct {
		values []string
		want   int // below 0: they may not be
	}{
		{[]string{"12", "012"}, 12},
		{[]string{"12", "13"}, -1},
		{[]string{"0", "00", "000"}, 0},
		{[]string{"0", "1"}, -1},
		{[]string{"1", "0"}, -1},
		{[]string{"5", "5", "5", "6"}, -1},
		{[]string{"5", "6", "5", "5"}, -1},
		{[]string{"5", "x"}, -1},
		{[]string{"x", "5"}, -1},
		{[]string{"5", ""}, -1},
		{[]string{"4503599627370496", "04503599627370496"}, 1 << 52},
		{[]string{"4503599627370497", "4503599627370497"}, -1},
	} {
		l := []api.Field{{Name: "a", Value: "99"}}
		for _, f := range fields(c.values...) {
			l = append(l, f, api.Field{Name: "b", Value: "x"})
		}
		was := slices.Clone(l)
		want := length.Length{}
		if c.want >= 0 {
			want = told(c.want)
		}
		if n, ok := length.Of(l); n != want || ok != (c.want >= 0) {
			t.Errorf("Of(%q): %v, %v", c.values, n, ok)
		}
		if !slices.Equal(l, was) {
			t.Errorf("Of(%q) has changed them", c.values)
		}
	}
}

// byWords is what fields tell by the document's words, with numbers of any size.
func byWords(l []api.Field) (length.Length, bool) {
	var numbers []*big.Int
	for _, f := range l {
		if f.Name == name {
			if f.Value == "" || strings.Trim(f.Value, "0123456789") != "" {
				return length.Length{}, false
			}
			n, _ := new(big.Int).SetString(f.Value, 10)
			numbers = append(numbers, n)
		}
	}
	for _, n := range numbers {
		if n.Cmp(big.NewInt(1<<52)) > 0 || n.Cmp(numbers[0]) != 0 {
			return length.Length{}, false
		}
	}
	if len(numbers) == 0 {
		return length.Length{}, true
	}
	return told(int(numbers[0].Int64())), true
}

func TestP261Random(t *testing.T) {
	random := rand.New(rand.NewSource(26))
	names := []string{name, name, "a", "Content-Length"}
	values := []string{"0", "00", "5", "05", "6", "", "x", "4503599627370496", "4503599627370497"}
	for range 50000 {
		l := make([]api.Field, random.Intn(5))
		for i := range l {
			l[i] = api.Field{Name: names[random.Intn(len(names))], Value: values[random.Intn(len(values))]}
		}
		want, is := byWords(l)
		if n, ok := length.Of(l); n != want || ok != is {
			t.Fatalf("Of(%v): %v, %v, want %v, %v", l, n, ok, want, is)
		}
	}
}

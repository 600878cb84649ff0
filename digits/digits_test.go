package digits_test

import (
	"math"
	"slices"
	"strconv"
	"strings"
	"testing"

	"stickler/digits"
)

var numbers = []int{0, 1, -1, 9, 10, -10, 40, -40, 99, 100, 1<<31 - 1, -1 << 31, 1 << 52, math.MaxInt - 1, math.MaxInt, math.MinInt + 1, math.MinInt}

// wrong are texts of no number.
var wrong = []string{"", "-", "+", "-0", "00", "007", "-007", "+5", "+0", "--5", "5-", " 5", "5 ", "5\n", "1.0", "1e3", "0x1", "1_0", "a", "5a", "٣", "５", "1\xff", "\xff", "\x00",
	"9223372036854775808", "-9223372036854775809", "9223372036854775810", "-9223372036854775810", "18446744073709551616", "18446744073709551617", "-18446744073709551617", "99999999999999999999", "-99999999999999999999"}

func TestP31Text(t *testing.T) {
	for _, n := range numbers {
		if s := digits.Text(n); s != strconv.Itoa(n) {
			t.Errorf("Text(%d): %q", n, s)
		}
	}
	if s := digits.Text(-40); s != "-40" {
		t.Error(s)
	}
	if s := digits.Text(0); s != "0" {
		t.Error(s)
	}
}

func TestP31Read(t *testing.T) {
	for _, n := range numbers {
		if got, ok := digits.Read(strconv.Itoa(n)); got != n || !ok {
			t.Errorf("Read of %d: %d, %v", n, got, ok)
		}
	}
	for n := -1200; n <= 1200; n++ {
		if got, ok := digits.Read(digits.Text(n)); got != n || !ok {
			t.Errorf("Read of %d: %d, %v", n, got, ok)
		}
	}
	for _, s := range wrong {
		if n, ok := digits.Read(s); n != 0 || ok {
			t.Errorf("Read(%q): %d, %v", s, n, ok)
		}
	}
}

// TestP31ReadShort goes through all short texts of these bytes: a text is read just if it is some number's.
func TestP31ReadShort(t *testing.T) {
	texts := []string{""}
	for range 4 {
		for _, s := range texts {
			n, ok := digits.Read(s)
			want, err := strconv.Atoi(s)
			is := err == nil && strconv.Itoa(want) == s
			if ok != is || ok && n != want || !ok && n != 0 {
				t.Errorf("Read(%q): %d, %v", s, n, ok)
			}
		}
		var longer []string
		for _, s := range texts {
			for _, c := range "-+0189/: ," {
				longer = append(longer, s+string(c))
			}
		}
		texts = longer
	}
}

func TestP32Natural(t *testing.T) {
	for _, c := range []struct {
		s       string
		most, n int
		ok      bool
	}{
		{"007", 9, 7, true},
		{"007", 7, 7, true},
		{"007", 6, 0, false},
		{"0", 0, 0, true},
		{"000", 0, 0, true},
		{"1", 0, 0, false},
		{"0", -1, 0, false},
		{"5", -1, 0, false},
		{"0", math.MinInt, 0, false},
		{"7", 3, 0, false},
		{"10", 10, 10, true},
		{"10", 9, 0, false},
		{"11", 10, 0, false},
		{"20", 19, 0, false},
		{"19", 19, 19, true},
		{"9223372036854775807", math.MaxInt, math.MaxInt, true},
		{"9223372036854775808", math.MaxInt, 0, false},
		{"18446744073709551617", math.MaxInt, 0, false},
		{"9223372036854775806", math.MaxInt - 1, math.MaxInt - 1, true},
		{"9223372036854775807", math.MaxInt - 1, 0, false},
		{strings.Repeat("0", 100) + "42", 42, 42, true},
		{"1" + strings.Repeat("0", 100), math.MaxInt, 0, false},
		{"", 9, 0, false},
		{"-1", 9, 0, false},
		{"-0", 9, 0, false},
		{"+1", 9, 0, false},
		{" 1", 9, 0, false},
		{"1 ", 9, 0, false},
		{"1a", 9, 0, false},
		{"1:", 99, 0, false},
		{"1/", 99, 0, false},
		{"٣", 9, 0, false},
		{"\xff", 9, 0, false},
		{"1\x00", 9, 0, false},
	} {
		if n, ok := digits.Natural(c.s, c.most); n != c.n || ok != c.ok {
			t.Errorf("Natural(%q, %d): %d, %v", c.s, c.most, n, ok)
		}
	}
	for n := range 300 {
		for most := -2; most < 300; most++ {
			got, ok := digits.Natural("0"+strconv.Itoa(n), most)
			if ok != (n <= most) || ok && got != n || !ok && got != 0 {
				t.Fatalf("Natural(0%d, %d): %d, %v", n, most, got, ok)
			}
		}
	}
}

func TestP33List(t *testing.T) {
	for _, c := range []struct {
		l []int
		s string
	}{
		{nil, ""},
		{[]int{}, ""},
		{[]int{0}, "0"},
		{[]int{1, -2}, "1,-2"},
		{[]int{0, 0, 0}, "0,0,0"},
		{[]int{math.MinInt, math.MaxInt}, "-9223372036854775808,9223372036854775807"},
		{[]int{3, 2, 10, 2}, "3,2,10,2"},
	} {
		if s := digits.List(c.l); s != c.s {
			t.Errorf("List(%v): %q", c.l, s)
		}
		if l, ok := digits.ReadList(c.s); !slices.Equal(l, c.l) || !ok {
			t.Errorf("ReadList(%q): %v, %v", c.s, l, ok)
		}
	}
}

func TestP33ReadListWrong(t *testing.T) {
	for _, s := range []string{",", "1,", ",1", "1,,2", "1, 2", "1;2", "1,02", "1,-0", "1,+2", "1,2,", "1,2,x", "x", " ", "1 ", "9223372036854775808", "1,9223372036854775808"} {
		if l, ok := digits.ReadList(s); len(l) != 0 || ok {
			t.Errorf("ReadList(%q): %v, %v", s, l, ok)
		}
	}
	for _, s := range wrong {
		if l, ok := digits.ReadList("1," + s); len(l) != 0 || ok {
			t.Errorf("ReadList(1,%q): %v, %v", s, l, ok)
		}
	}
}

func TestP33ListLeavesIt(t *testing.T) {
	l := []int{3, 1, 2}
	if digits.List(l) != digits.List(l) || !slices.Equal(l, []int{3, 1, 2}) {
		t.Error(l)
	}
	one, _ := digits.ReadList("1,2")
	one[0] = 9
	if two, _ := digits.ReadList("1,2"); !slices.Equal(two, []int{1, 2}) {
		t.Error(two)
	}
}

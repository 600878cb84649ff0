package words_test

import (
	"bytes"
	"slices"
	"strings"
	"testing"

	"stickler/words"
)

// texts are all texts of so many of these letters at most.
func texts(letters string, most int) []string {
	all := []string{""}
	for from := 0; most > 0; most-- {
		to := len(all)
		for _, s := range all[from:to] {
			for i := range len(letters) {
				all = append(all, s+letters[i:i+1])
			}
		}
		from = to
	}
	return all
}

func TestP41Quote(t *testing.T) {
	for _, c := range []struct{ s, w string }{
		{"", "%"},
		{"a b%", "a%20b%25"},
		{"%", "%25"},
		{"%20", "%2520"},
		{" ", "%20"},
		{"\n", "%0a"},
		{"\x00", "%00"},
		{"!", "!"},
		{"$&", "$&"},
		{"~", "~"},
		{"\x7f", "%7f"},
		{"\x80\xff", "%80%ff"},
		{"é", "%c3%a9"},
		{"/a?b=c", "/a?b=c"},
	} {
		if w := words.Quote(c.s); w != c.w {
			t.Errorf("Quote(%q): %q", c.s, w)
		}
		if s, ok := words.Unquote(c.w); s != c.s || !ok {
			t.Errorf("Unquote(%q): %q, %v", c.w, s, ok)
		}
	}
}

func TestP41EachByte(t *testing.T) {
	const digit = "0123456789abcdef"
	for n := range 256 {
		c := byte(n)
		want := "%" + digit[n/16:n/16+1] + digit[n%16:n%16+1]
		if n >= 33 && n <= 126 && n != 37 {
			if s, ok := words.Unquote(want); s != "" || ok {
				t.Errorf("Unquote(%q): %q, %v", want, s, ok)
			}
			want = string([]byte{c})
		}
		if w := words.Quote(string([]byte{c})); w != want {
			t.Errorf("Quote of %d: %q", n, w)
		}
		if s, ok := words.Unquote(want); s != string([]byte{c}) || !ok {
			t.Errorf("Unquote(%q): %q, %v", want, s, ok)
		}
	}
}

func TestP41UnquoteWrong(t *testing.T) {
	for _, w := range []string{"", " ", "a b", "\n", "é", "\xff", "\x7f", "%2", "%%", "a%", "%a", "%2x", "%x2", "%g0", "%0A", "%FF", "%41", "%21", "%7e", "%20%", "%%20", "%20%2", "% 20", "%+1", "%-1", "%\xff\xff"} {
		if s, ok := words.Unquote(w); s != "" || ok {
			t.Errorf("Unquote(%q): %q, %v", w, s, ok)
		}
	}
}

// TestP41OneWord: a word is read just if it is some text's, and then that one's.
func TestP41OneWord(t *testing.T) {
	for _, w := range texts("%02aAg ~", 6) {
		s, ok := words.Unquote(w)
		if ok && words.Quote(s) != w {
			t.Errorf("%q is read as %q, whose word is %q", w, s, words.Quote(s))
		}
		if !ok && s != "" {
			t.Errorf("Unquote(%q): %q", w, s)
		}
	}
	for _, s := range texts("% \x00~a\xff", 5) {
		w := words.Quote(s)
		if got, ok := words.Unquote(w); got != s || !ok {
			t.Errorf("%q is quoted as %q, and that is read as %q, %v", s, w, got, ok)
		}
		if line, ok := words.Line(w); line != w || !ok {
			t.Errorf("%q of %q is no word of a line", w, s)
		}
	}
}

func TestP42Line(t *testing.T) {
	for _, c := range []struct {
		l  []string
		s  string
		ok bool
	}{
		{nil, "", true},
		{[]string{}, "", true},
		{[]string{"a"}, "a", true},
		{[]string{"a", "b"}, "a b", true},
		{[]string{"a", "b", "%"}, "a b %", true},
		{[]string{"é", "\t\r", "\x00"}, "é \t\r \x00", true},
		{[]string{""}, "", false},
		{[]string{"a", ""}, "", false},
		{[]string{"", "a"}, "", false},
		{[]string{"a", "", "b"}, "", false},
		{[]string{" "}, "", false},
		{[]string{"a b"}, "", false},
		{[]string{"a", "b "}, "", false},
		{[]string{"\n"}, "", false},
		{[]string{"a\n"}, "", false},
		{[]string{"a", "b\nc"}, "", false},
	} {
		if s, ok := words.Line(c.l...); s != c.s || ok != c.ok {
			t.Errorf("Line(%q): %q, %v", c.l, s, ok)
		}
		if l, ok := words.Split(c.s); c.ok && (!slices.Equal(l, c.l) || !ok) {
			t.Errorf("Split(%q): %q, %v", c.s, l, ok)
		}
	}
}

func TestP42SplitWrong(t *testing.T) {
	for _, s := range []string{" ", "a  b", " a", "a ", "  ", "a b ", "\n", "a\n", "\na", "a b\nc", "a \n b"} {
		if l, ok := words.Split(s); len(l) != 0 || ok {
			t.Errorf("Split(%q): %q, %v", s, l, ok)
		}
	}
}

// TestP42OneLine holds each short text against what blanks and ends of lines say of it.
func TestP42OneLine(t *testing.T) {
	for _, s := range texts("ab \n", 7) {
		l, ok := words.Split(s)
		is := !strings.Contains(" "+s+" ", "  ") && !strings.Contains(s, "\n") || s == ""
		if ok != is || !ok && len(l) != 0 {
			t.Errorf("Split(%q): %q, %v", s, l, ok)
		}
		if line, good := words.Line(l...); ok && (line != s || !good) {
			t.Errorf("Line(%q): %q, %v", l, line, good)
		}
	}
}

func TestP43Lines(t *testing.T) {
	for _, c := range []struct {
		text string
		l    []string
		ok   bool
	}{
		{"", nil, true},
		{"\n", []string{""}, true},
		{"a\n", []string{"a"}, true},
		{"a\n\n", []string{"a", ""}, true},
		{"\n\na\n", []string{"", "", "a"}, true},
		{"a b\r\nc\n", []string{"a b\r", "c"}, true},
		{"a", nil, false},
		{" ", nil, false},
		{"\r", nil, false},
		{"a\nb", nil, false},
		{"\na", nil, false},
		{"\n\n ", nil, false},
	} {
		if l, ok := words.Lines(c.text); !slices.Equal(l, c.l) || ok != c.ok {
			t.Errorf("Lines(%q): %q, %v", c.text, l, ok)
		}
	}
	for _, s := range texts("a \n", 7) {
		l, ok := words.Lines(s)
		back := ""
		for _, line := range l {
			back += line + "\n"
		}
		if ok && back != s || ok != (s == "" || s[len(s)-1] == '\n') || !ok && len(l) != 0 {
			t.Errorf("Lines(%q): %q, %v", s, l, ok)
		}
	}
}

func TestP44Hex(t *testing.T) {
	for _, c := range []struct {
		b []byte
		s string
	}{
		{nil, ""},
		{[]byte{}, ""},
		{[]byte{0}, "00"},
		{[]byte{1, 16, 255}, "0110ff"},
		{[]byte{0xab, 0xcd, 0xef, 0x09}, "abcdef09"},
	} {
		if s := words.Hex(c.b); s != c.s {
			t.Errorf("Hex(%v): %q", c.b, s)
		}
	}
}

// TestP44EachPair goes through all texts of two bytes: just 256 of them are those of a byte.
func TestP44EachPair(t *testing.T) {
	good := 0
	for n := range 1 << 16 {
		s := string([]byte{byte(n >> 8), byte(n)})
		b, ok := words.Unhex(s)
		if ok {
			good++
		}
		if ok && (len(b) != 1 || words.Hex(b) != s) || !ok && len(b) != 0 {
			t.Errorf("Unhex(%q): %v, %v", s, b, ok)
		}
	}
	if good != 256 {
		t.Error(good)
	}
	for n := range 256 {
		want := []byte{7, byte(n)}
		if b, ok := words.Unhex(words.Hex(want)); !bytes.Equal(b, want) || !ok {
			t.Errorf("Unhex(%q): %v, %v", words.Hex(want), b, ok)
		}
	}
}

func TestP44UnhexWrong(t *testing.T) {
	if b, ok := words.Unhex(""); len(b) != 0 || !ok {
		t.Error(b, ok)
	}
	for _, s := range []string{"0", "000", "0g", "g0", "AB", "aB", "00F0", "0x", " 00", "00 ", "0 0", "00,0", "é", "00\n", "00g0", "000g"} {
		if b, ok := words.Unhex(s); len(b) != 0 || ok {
			t.Errorf("Unhex(%q): %v, %v", s, b, ok)
		}
	}
}

func TestP2LeavesIt(t *testing.T) {
	b := []byte{1, 2}
	l := []string{"a", "b"}
	words.Hex(b)
	words.Line(l...)
	if !bytes.Equal(b, []byte{1, 2}) || !slices.Equal(l, []string{"a", "b"}) {
		t.Error(b, l)
	}
	one, _ := words.Split("a b")
	one[0] = "x"
	if two, _ := words.Split("a b"); !slices.Equal(two, l) {
		t.Error(two)
	}
}

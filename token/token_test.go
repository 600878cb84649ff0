package token_test

import (
	"math/rand"
	"regexp"
	"strings"
	"testing"

	"stickler/api"
	"stickler/token"
)

// The document's words once more, as patterns of single bytes: each byte is a rune of its own here.
var (
	nameForm  = regexp.MustCompile(`^[!-9;-@\[-~]+$`)
	valueForm = regexp.MustCompile(`^([^\x00\n\r\t ]([^\x00\n\r]*[^\x00\n\r\t ])?)?$`)
)

func runes(s string) string {
	l := make([]rune, len(s))
	for i := range len(s) {
		l[i] = rune(s[i])
	}
	return string(l)
}

func isName(s string) bool  { return nameForm.MatchString(runes(s)) }
func isValue(s string) bool { return valueForm.MatchString(runes(s)) }

func isPseudo(s string) bool { return s != "" && s[0] == ':' && isName(s[1:]) }

// texts calls f with all texts of up to two bytes, each byte amid others, and with long ones of bytes that matter.
func texts(f func(s string)) {
	f("")
	for a := range 256 {
		f(string([]byte{byte(a)}))
		for _, s := range []string{"x?x", "?xx", "xx?", ":?", ":x?", ":?x", "x?", "?x"} {
			f(strings.ReplaceAll(s, "?", string([]byte{byte(a)})))
		}
		for b := range 256 {
			f(string([]byte{byte(a), byte(b)}))
		}
	}
	const some = "\x00\t\n\r !/09:;@AMZ[`amz{~\x7f\x80\xc3\xa9\xff"
	random := rand.New(rand.NewSource(25))
	for range 50000 {
		b := make([]byte, random.Intn(9))
		for i := range b {
			b[i] = some[random.Intn(len(some))]
		}
		f(string(b))
	}
}

// agree holds a call against some texts of which it is known, and against the pattern for all the others.
func agree(t *testing.T, is, want func(string) bool, known map[string]bool) {
	t.Helper()
	for s, want := range known {
		if is(s) != want {
			t.Errorf("%q: %v", s, !want)
		}
	}
	texts(func(s string) {
		if is(s) != want(s) {
			t.Fatalf("%q: %v", s, is(s))
		}
	})
}

func TestP251Name(t *testing.T) {
	agree(t, token.Name, isName, map[string]bool{
		"host": true, "Host": false, "": false, ":": false, ":path": false, "a:b": false, "a b": false, "x-1_2.3~": true,
		"!": true, "~": true, "9": true, ";": true, "@": true, "[": true, " ": false, "\x7f": false, "A": false, "Z": false,
		"\u00e9": false, "a\x00": false, "a\xff": false, "aZ": false, "content-length": true,
	})
	long := strings.Repeat("n", 1<<20)
	if !token.Name(long) || token.Name(long+"N") || token.Name("N"+long) {
		t.Error("long names")
	}
}

func TestP251Pseudo(t *testing.T) {
	agree(t, token.Pseudo, isPseudo, map[string]bool{
		":path": true, ":x": true, ":": false, "": false, "path": false, "::path": false, ":Path": false, ":pa:th": false,
		" :path": false, ": path": false, ":path ": false, ":1": true, "x:path": false,
	})
}

func TestP252Value(t *testing.T) {
	agree(t, token.Value, isValue, map[string]bool{
		"": true, "a": true, "a b": true, "a\tb": true, "a ": false, " a": false, "a\t": false, "\ta": false, " ": false,
		"\t": false, "  ": false, "a\x00b": false, "a\nb": false, "a\rb": false, "\x00": false, "\n": false, "\r": false,
		"a\n": false, "\ra": false, "\x01": true, "\x0b": true, "\x7f": true, "\xff": true, "\u20ac": true, "A Z": true, "a  b": true,
		"\u00a0": true, "a\u2028": true,
	})
	long := strings.Repeat("v ", 1<<20)
	if token.Value(long) || !token.Value(long+"v") || token.Value(long+"\x00v") {
		t.Error("long values")
	}
}

func TestP253Lower(t *testing.T) {
	for s, want := range map[string]string{
		"": "", "Trailers": "trailers", "ABCXYZ": "abcxyz", "@[`{": "@[`{", "aZ09": "az09", "\u00c9A": "\u00c9a",
		"\u212a": "\u212a", "\xc0\xffA": "\xc0\xffa", "\x00\x20": "\x00\x20", "\u0130": "\u0130",
	} {
		if s2 := token.Lower(s); s2 != want {
			t.Errorf("Lower(%q): %q", s, s2)
		}
	}
	texts(func(s string) {
		want := []byte(s)
		for i, c := range want {
			if at := strings.IndexByte("ABCDEFGHIJKLMNOPQRSTUVWXYZ", c); at >= 0 {
				want[i] = "abcdefghijklmnopqrstuvwxyz"[at]
			}
		}
		if s2 := token.Lower(s); s2 != string(want) {
			t.Fatalf("Lower(%q): %q", s, s2)
		}
	})
}

func TestP253Barred(t *testing.T) {
	names := []string{"connection", "keep-alive", "proxy-connection", "transfer-encoding", "upgrade"}
	for _, name := range names {
		if !token.Barred(name) {
			t.Errorf("Barred(%q) is not", name)
		}
		for _, other := range []string{
			strings.ToUpper(name), strings.ToUpper(name[:1]) + name[1:], name + " ", " " + name, name[1:], name[:len(name)-1], ":" + name, name + name,
		} {
			if token.Barred(other) {
				t.Errorf("Barred(%q)", other)
			}
		}
	}
	for _, other := range []string{"", "te", "trailer", "host", "proxy", "alive", "keep", "transfer", "encoding", "proxy-authenticate", "connection,upgrade"} {
		if token.Barred(other) {
			t.Errorf("Barred(%q)", other)
		}
	}
}

func TestP253Field(t *testing.T) {
	names := []string{"a", ":a", "", ":", "A", ":A", "::a", "a:", "a b", "te", "connection", ":no-such", "\xff"}
	values := []string{"", "b", "b c", " b", "b ", "b\t", "b\n", "\x00", "\xff", "B"}
	for _, name := range names {
		for _, value := range values {
			for _, never := range []bool{false, true} {
				want := (isName(name) || isPseudo(name)) && isValue(value)
				f := api.Field{Name: name, Value: value, Never: never}
				if is := token.Field(f); is != want {
					t.Errorf("Field(%v): %v", f, is)
				}
			}
		}
	}
	for f, want := range map[api.Field]bool{
		{Name: "a"}: true, {Name: ":a", Value: "b"}: true, {}: false, {Value: "b"}: false, {Name: "A", Value: "b"}: false, {Name: "a", Value: "b "}: false,
	} {
		if is := token.Field(f); is != want {
			t.Errorf("Field(%v): %v", f, is)
		}
	}
}

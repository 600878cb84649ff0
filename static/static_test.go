package static_test

import (
	"math"
	"strconv"
	"strings"
	"testing"

	"stickler/api"
	"stickler/static"
)

// told is the document's list.
const told = `1 :authority; 2 :method = GET; 3 :method = POST
4 :path = /; 5 :path = /index.html; 6 :scheme = http
7 :scheme = https; 8 :status = 200; 9 :status = 204
10 :status = 206; 11 :status = 304; 12 :status = 400
13 :status = 404; 14 :status = 500; 15 accept-charset
16 accept-encoding = gzip, deflate; 17 accept-language; 18 accept-ranges
19 accept; 20 access-control-allow-origin; 21 age
22 allow; 23 authorization; 24 cache-control
25 content-disposition; 26 content-encoding; 27 content-language
28 content-length; 29 content-location; 30 content-range
31 content-type; 32 cookie; 33 date
34 etag; 35 expect; 36 expires
37 from; 38 host; 39 if-match
40 if-modified-since; 41 if-none-match; 42 if-range
43 if-unmodified-since; 44 last-modified; 45 link
46 location; 47 max-forwards; 48 proxy-authenticate
49 proxy-authorization; 50 range; 51 referer
52 refresh; 53 retry-after; 54 server
55 set-cookie; 56 strict-transport-security; 57 transfer-encoding
58 user-agent; 59 vary; 60 via
61 www-authenticate`

// list are the fields that it tells, by their places less 1.
func list(t *testing.T) []api.Field {
	var l []api.Field
	for _, part := range strings.Split(strings.ReplaceAll(told, "\n", "; "), "; ") {
		place, field, _ := strings.Cut(part, " ")
		name, value, _ := strings.Cut(field, " = ")
		l = append(l, api.Field{Name: name, Value: value})
		if place != strconv.Itoa(len(l)) {
			t.Fatal(part)
		}
	}
	return l
}

func TestP201At(t *testing.T) {
	l := list(t)
	if len(l) != 61 || static.Len != 61 {
		t.Fatal(len(l), static.Len)
	}
	for i, want := range l {
		if f, ok := static.At(i + 1); f != want || !ok {
			t.Errorf("At(%d): %v, %v, want %v", i+1, f, ok, want)
		}
	}
	for _, i := range []int{math.MinInt, -61, -2, -1, 0, 62, 63, 64, 128, 1 << 32, math.MaxInt} {
		if f, ok := static.At(i); f != (api.Field{}) || ok {
			t.Errorf("At(%d): %v, %v", i, f, ok)
		}
	}
}

// find goes by the document's words.
func find(l []api.Field, name, value string) (int, bool) {
	for i, f := range l {
		if f.Name == name && f.Value == value {
			return i + 1, true
		}
	}
	for i, f := range l {
		if f.Name == name {
			return i + 1, false
		}
	}
	return 0, false
}

func TestP202Find(t *testing.T) {
	l := list(t)
	names := []string{"", ":", ":method ", "Cookie", "cookies", "x", "\x00", ":Status", "te"}
	values := []string{"PUT", "get", "Get", " ", "/index.htm", "gzip,deflate", "201", "\xff"}
	for _, f := range l {
		names, values = append(names, f.Name), append(values, f.Value)
	}
	for _, name := range names {
		for _, value := range values {
			want, is := find(l, name, value)
			if i, ok := static.Find(name, value); i != want || ok != is {
				t.Errorf("Find(%q, %q): %d, %v, want %d, %v", name, value, i, ok, want, is)
			}
		}
	}
}

func TestP202Known(t *testing.T) {
	for _, c := range []struct {
		name, value string
		want        int
		is          bool
	}{
		{":method", "PUT", 2, false},
		{":method", "GET", 2, true},
		{":method", "POST", 3, true},
		{":method", "", 2, false},
		{":path", "/index.html", 5, true},
		{":scheme", "https", 7, true},
		{":status", "500", 14, true},
		{":status", "503", 8, false},
		{"accept-encoding", "", 16, false},
		{"accept-encoding", "gzip, deflate", 16, true},
		{":authority", "", 1, true},
		{":authority", "a", 1, false},
		{"www-authenticate", "", 61, true},
		{"www-authenticate", "x", 61, false},
		{"", "", 0, false},
		{"", "GET", 0, false},
		{"GET", ":method", 0, false},
	} {
		if i, ok := static.Find(c.name, c.value); i != c.want || ok != c.is {
			t.Errorf("Find(%q, %q): %d, %v, want %d, %v", c.name, c.value, i, ok, c.want, c.is)
		}
	}
}

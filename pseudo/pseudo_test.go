package pseudo_test

import (
	"math/rand"
	"slices"
	"strconv"
	"strings"
	"testing"

	"stickler/api"
	"stickler/pseudo"
)

// list is fields written as name=value, a comma between.
func list(s string) []api.Field {
	var l []api.Field
	for part := range strings.SplitSeq(s, ",") {
		if name, value, ok := strings.Cut(part, "="); ok {
			l = append(l, api.Field{Name: name, Value: value})
		}
	}
	return l
}

func request(t *testing.T, l []api.Field, want pseudo.Head, is bool) {
	t.Helper()
	was := slices.Clone(l)
	if h, ok := pseudo.Request(l); h != want || ok != is {
		t.Errorf("Request(%v): %+v, %v, want %+v, %v", l, h, ok, want, is)
	}
	if !slices.Equal(l, was) {
		t.Errorf("Request(%v) has changed them", was)
	}
}

func response(t *testing.T, l []api.Field, status int) {
	t.Helper()
	was := slices.Clone(l)
	if h, ok := pseudo.Response(l); h != (pseudo.Head{Status: status}) || ok != (status > 0) {
		t.Errorf("Response(%v): %+v, %v, want %d", l, h, ok, status)
	}
	if !slices.Equal(l, was) {
		t.Errorf("Response(%v) has changed them", was)
	}
}

func TestP271Ahead(t *testing.T) {
	get := pseudo.Head{Method: "GET", Scheme: "http", Path: "/"}
	request(t, list(":method=GET,:scheme=http,:path=/"), get, true)
	request(t, list(":path=/,:method=GET,:scheme=http,a=b,c=d"), get, true)
	request(t, list(":method=GET,:scheme=http,a=b,:path=/"), pseudo.Head{}, false)
	request(t, list("a=b,:method=GET,:scheme=http,:path=/"), pseudo.Head{}, false)
	request(t, list(":method=GET,:scheme=http,:path=/,a=b,:authority=c"), pseudo.Head{}, false)
	request(t, list(":method=GET,:scheme=http,:path=/,=b,:authority=c"), pseudo.Head{}, false)
	request(t, list(":method=GET,:scheme=http,:path=/,method=b"), get, true)
	response(t, list(":status=200,a=b"), 200)
	response(t, list("a=b,:status=200"), 0)
	response(t, list("status=100,:status=200"), 0)
}

func TestP271Others(t *testing.T) {
	for _, name := range []string{":status", ":", ":Method", ":method ", ":protocol", "::path", ":met", ":methods"} {
		for _, value := range []string{"", "200"} {
			own := api.Field{Name: name, Value: value}
			l := list(":method=GET,:scheme=http,:path=/")
			request(t, append(l, own), pseudo.Head{}, false)
			request(t, append([]api.Field{own}, l...), pseudo.Head{}, false)
		}
	}
	for _, name := range []string{":method", ":path", ":scheme", ":authority", ":", ":Status", ":status2"} {
		response(t, list(":status=200,"+name+"=200"), 0)
		response(t, list(name+"=200,:status=200"), 0)
		response(t, list(name+"=200"), 0)
	}
}

func TestP271Twice(t *testing.T) {
	l := list(":method=GET,:scheme=http,:path=/,:authority=x")
	for _, f := range l {
		for _, value := range []string{f.Value, "", "y"} {
			request(t, append(slices.Clone(l), api.Field{Name: f.Name, Value: value}), pseudo.Head{}, false)
			request(t, append([]api.Field{{Name: f.Name, Value: value}}, l...), pseudo.Head{}, false)
		}
	}
	response(t, list(":status=200,:status=200"), 0)
	response(t, list(":status=,:status=200"), 0)
	response(t, list(":status=200,:status=201"), 0)
	request(t, list(":method=GET,:scheme=http,:path=/,:authority=,:authority=x"), pseudo.Head{}, false)
	request(t, list(":method=GET,:scheme=http,:path=/,a=b,a=b"), pseudo.Head{Method: "GET", Scheme: "http", Path: "/"}, true)
}

func TestP272Request(t *testing.T) {
	for s, want := range map[string]pseudo.Head{
		":method=GET,:scheme=http,:path=/,:authority=":      {Method: "GET", Scheme: "http", Path: "/"},
		":method=GET,:scheme=http,:path=/,:authority=x":     {Method: "GET", Scheme: "http", Path: "/", Authority: "x"},
		":method=x,:scheme=y,:path=z":                       {Method: "x", Scheme: "y", Path: "z"},
		":method=connect,:scheme=y,:path=z":                 {Method: "connect", Scheme: "y", Path: "z"},
		":method=CONNECT,:authority=x":                      {Method: "CONNECT", Authority: "x"},
		":authority=x,:method=CONNECT,a=b":                  {Method: "CONNECT", Authority: "x"},
		":method=CONNECT ,:scheme=y,:path=z,:authority=a:1": {Method: "CONNECT ", Scheme: "y", Path: "z", Authority: "a:1"},
	} {
		request(t, list(s), want, true)
	}
	for _, s := range []string{
		"", "a=b",
		":scheme=http,:path=/", ":method=,:scheme=http,:path=/",
		":method=GET,:path=/", ":method=GET,:scheme=,:path=/", ":method=GET,:scheme=http", ":method=GET,:scheme=http,:path=",
		":method=GET", ":method=GET,:authority=x", ":authority=x", ":method=,:authority=x",
		":method=CONNECT", ":method=CONNECT,:authority=",
		":method=CONNECT,:authority=x,:scheme=http", ":method=CONNECT,:authority=x,:path=/", ":method=CONNECT,:authority=x,:scheme=http,:path=/",
		":method=CONNECT,:authority=x,:scheme=", ":method=CONNECT,:authority=x,:path=", ":method=CONNECT,:scheme=http,:path=/",
		":method=connect,:authority=x", ":status=200",
	} {
		request(t, list(s), pseudo.Head{}, false)
	}
	request(t, nil, pseudo.Head{}, false)
}

func TestP273Response(t *testing.T) {
	for n := -5; n < 2000; n++ {
		want := n
		if n < 100 || n > 999 || n == 101 {
			want = 0
		}
		response(t, list(":status="+strconv.Itoa(n)), want)
	}
	for _, s := range []string{
		"", "a=b", ":status=", ":status=2000", ":status=0200", ":status=020", ":status=099", ":status=000", ":status=101",
		":status=+20", ":status=-10", ":status=20x", ":status= 20", ":status=20 ", ":status=2.0", ":status=0x9", ":status=1e2", ":status=\u0662\u0660\u0660", ":status=9\u0660", ":status=\xff\xff\xff",
	} {
		response(t, list(s), 0)
	}
	response(t, nil, 0)
	response(t, list(":status=200,b=x,c=y"), 200)
}

func TestP274Trailer(t *testing.T) {
	for s, want := range map[string]bool{
		"": true, "a=b": true, "a=b,c=d,a=b": true, "=": true, "a:b=c": true, "A=:x": true, " :a=b": true,
		":a=b": false, ":=": false, ":status=200": false, ":method=GET": false, "a=b,:path=/": false, "a=b,::=": false, "a=b,:A=,c=d": false,
	} {
		l := list(s)
		if is := pseudo.Trailer(l); is != want {
			t.Errorf("Trailer(%v): %v", l, is)
		}
	}
	if !pseudo.Trailer(nil) {
		t.Error("Trailer of none")
	}
}

// values are those of the pseudo-fields; ok is what the document asks of them in common.
func values(l []api.Field, names ...string) (got map[string]string, ok bool) {
	got = map[string]string{}
	for i, f := range l {
		if f.Name == "" || f.Name[0] != ':' {
			continue
		}
		_, twice := got[f.Name]
		if twice || !slices.Contains(names, f.Name) || i > 0 && (l[i-1].Name == "" || l[i-1].Name[0] != ':') {
			return nil, false
		}
		got[f.Name] = f.Value
	}
	return got, true
}

func byWords(l []api.Field) (pseudo.Head, bool) {
	got, ok := values(l, ":method", ":scheme", ":authority", ":path")
	_, scheme := got[":scheme"]
	_, path := got[":path"]
	switch {
	case !ok || got[":method"] == "":
		return pseudo.Head{}, false
	case got[":method"] == "CONNECT" && (scheme || path || got[":authority"] == ""):
		return pseudo.Head{}, false
	case got[":method"] != "CONNECT" && (got[":scheme"] == "" || got[":path"] == ""):
		return pseudo.Head{}, false
	}
	return pseudo.Head{Method: got[":method"], Scheme: got[":scheme"], Authority: got[":authority"], Path: got[":path"]}, true
}

func TestP271Random(t *testing.T) {
	random := rand.New(rand.NewSource(27))
	some := []string{":method=GET", ":method=CONNECT", ":method=", ":scheme=http", ":scheme=", ":path=/", ":path=", ":authority=x", ":authority=", ":status=200", ":x=y", "a=b", "method=c", "=d"}
	right := 0
	for range 200000 {
		var l []api.Field
		for range random.Intn(6) {
			l = append(l, list(some[random.Intn(len(some))])...)
		}
		want, is := byWords(l)
		if is {
			right++
		}
		if h, ok := pseudo.Request(l); h != want || ok != is {
			t.Fatalf("Request(%v): %+v, %v, want %+v, %v", l, h, ok, want, is)
		}
		got, in := values(l, ":status")
		status, there := got[":status"]
		if h, ok := pseudo.Response(l); ok != (in && there) || ok && strconv.Itoa(h.Status) != status {
			t.Fatalf("Response(%v): %+v, %v", l, h, ok)
		}
		if got, none := values(l); pseudo.Trailer(l) != (none && len(got) == 0) {
			t.Fatalf("Trailer(%v)", l)
		}
	}
	if right < 100 {
		t.Fatal("too few of these are requests:", right)
	}
}

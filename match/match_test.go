package match_test

import (
	"math"
	"testing"

	"stickler/api"
	"stickler/match"
)

const (
	client = api.Client
	server = api.Server
	zero4  = "\x00\x00\x00\x00"
)

func raw(from, kind, flags, stream int, body string) api.Raw {
	return api.Raw{From: from, Type: kind, Flags: flags, Stream: stream, Body: []byte(body)}
}

func away(from int, code string) api.Raw { return raw(from, api.Goaway, 0, 0, zero4+code) }

func cut(from, stream int, code string) api.Raw { return raw(from, api.Reset, 0, stream, code) }

const (
	one  = "\x00\x00\x00\x01"
	five = "\x00\x00\x00\x05"
	full = "\xff\xff\xff\xff"
)

func TestP49Reaction(t *testing.T) {
	conn := func(code int) api.Fault { return api.Fault{Scope: api.OfConn, Code: code} }
	ofOne := func(code int) api.Fault { return api.Fault{Scope: api.OfStream, Code: code} }
	ping := raw(server, api.Ping, 0, 0, zero4+zero4)
	for i, x := range []struct {
		l    []api.Raw
		want api.Fault
		is   bool
	}{
		{nil, api.Fault{}, false},
		{[]api.Raw{ping, away(server, one)}, conn(1), true},
		{[]api.Raw{away(server, zero4)}, conn(0), true},
		{[]api.Raw{away(server, full)}, conn(1<<32 - 1), true},
		{[]api.Raw{raw(server, api.Goaway, 255, 0, full+five+"and more")}, conn(5), true},
		{[]api.Raw{cut(server, 3, five)}, ofOne(5), true},
		{[]api.Raw{cut(server, 3, full)}, ofOne(1<<32 - 1), true},
		{[]api.Raw{cut(server, 3, five), away(server, one)}, ofOne(5), true},
		{[]api.Raw{away(server, one), cut(server, 3, five)}, conn(1), true},
		{[]api.Raw{away(server, five), away(server, one)}, conn(5), true},
		// Of another stream, of the other side, or wrong in itself it tells nothing.
		{[]api.Raw{cut(server, 1, five)}, api.Fault{}, false},
		{[]api.Raw{cut(server, 1, five), cut(server, 3, one)}, ofOne(1), true},
		{[]api.Raw{away(client, one), cut(client, 3, one), ping}, api.Fault{}, false},
		{[]api.Raw{away(client, one), away(server, five)}, conn(5), true},
		{[]api.Raw{raw(server, api.Goaway, 0, 0, zero4+"\x00\x00\x01"), raw(server, api.Goaway, 0, 1, zero4+one), cut(server, 3, one+"x")}, api.Fault{}, false},
		{[]api.Raw{raw(server, api.Goaway, 0, 0, zero4), cut(server, 3, "\x00\x00\x01"), away(server, five)}, conn(5), true},
		{[]api.Raw{raw(server, api.Goaway, 256, 0, zero4+one), raw(server, api.Reset, 0, -3, one), cut(server, 3, five)}, ofOne(5), true},
		{[]api.Raw{raw(server, api.Preface, 0, 0, zero4+one), raw(server, api.Window, 0, 3, one), raw(server, api.Data, 0, 3, one), ping}, api.Fault{}, false},
	} {
		if got, is := match.Reaction(x.l, server, 3); got != x.want || is != x.is {
			t.Error(i, got, is)
		}
	}
	// Neither a side nor a stream that is none is told of.
	for _, n := range []int{-1, 2, math.MaxInt, math.MinInt} {
		if got, is := match.Reaction([]api.Raw{away(server, one), cut(server, 1, one)}, n, 1); got != (api.Fault{}) || is {
			t.Error(n, got, is)
		}
	}
	for _, n := range []int{0, -1, 1 << 31, math.MaxInt} {
		if got, is := match.Reaction([]api.Raw{cut(server, n, one)}, server, n); got != (api.Fault{}) || is {
			t.Error(n, got, is)
		}
	}
}

func TestP49Judge(t *testing.T) {
	a, b, odd := api.Fault{Scope: 1, Code: 5}, api.Fault{Scope: 2, Code: 5}, api.Fault{Scope: 7, Code: -1}
	for i, x := range []struct {
		l    []api.Fault
		got  api.Fault
		told bool
		want int
	}{
		{[]api.Fault{a, b}, a, true, match.Passed},
		{[]api.Fault{a, b}, b, true, match.Passed},
		{[]api.Fault{b, odd, a}, odd, true, match.Passed},
		{[]api.Fault{a, b}, a, false, match.Failed},
		{[]api.Fault{a}, b, true, match.Failed},
		{[]api.Fault{a}, api.Fault{Scope: 1, Code: 6}, true, match.Failed},
		{[]api.Fault{{}}, api.Fault{}, true, match.Passed},
		{[]api.Fault{{}}, api.Fault{}, false, match.Failed},
		{nil, a, true, match.Failed},
		{nil, api.Fault{}, true, match.Failed},
		{nil, api.Fault{}, false, match.Failed},
	} {
		if got := match.Judge(x.l, x.got, x.told); got != x.want {
			t.Error(i, got)
		}
	}
}

func TestP49Name(t *testing.T) {
	if l := [...]int{match.Passed, match.Failed, match.Void, match.Broken}; l != [...]int{1, 2, 3, 4} {
		t.Error(l)
	}
	for verdict, name := range map[int]string{match.Passed: "passed", match.Failed: "failed", match.Void: "void", match.Broken: "broken", 0: "", -1: "", 5: "", math.MaxInt: "", math.MinInt: ""} {
		if got := match.Name(verdict); got != name {
			t.Error(verdict, got)
		}
	}
}

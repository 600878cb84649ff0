package peer_test

import (
	"bytes"
	"math"
	"math/rand"
	"slices"
	"testing"

	"stickler/api"
	"stickler/driver"
	"stickler/peer"
)

const (
	client = api.Client
	server = api.Server
	most   = 1<<31 - 1
	nine8  = "\t\t\t\t\t\t\t\t"
)

func raw(from, kind, flags, stream int, body string) api.Raw {
	return api.Raw{From: from, Type: kind, Flags: flags, Stream: stream, Body: []byte(body)}
}

func head(from, stream int) api.Raw { return raw(from, api.Headers, 4, stream, "x") }

// get and ok have blocks as layer 47 writes them: ahead of the fields the byte 32 tells the size 0.
func get(stream int) api.Raw {
	return raw(client, api.Headers, 5, stream, " \x02\x03GET\x06\x04http\x04\x01/")
}

func ok(stream int) api.Raw { return raw(server, api.Headers, 5, stream, " \x08\x03200") }

func cut(from, stream int) api.Raw { return raw(from, api.Reset, 0, stream, "\x00\x00\x00\x08") }

func data(from, stream int) api.Raw {
	return raw(from, api.Data, 0, stream, "\x00\x00\x00\x00\x00")
}

func same(a, b []api.Raw) bool {
	return slices.EqualFunc(a, b, func(x, y api.Raw) bool {
		return x.From == y.From && x.Type == y.Type && x.Flags == y.Flags && x.Stream == y.Stream && x.Res == y.Res && bytes.Equal(x.Body, y.Body)
	})
}

func begun() []api.Raw { return slices.Concat(driver.Open(client), driver.Open(server)) }

func list(l ...api.Raw) []api.Raw { return l }

func choices(kind, of int) []int {
	l := []int{kind, kind + of, kind + 7*of, kind + (math.MaxInt-of)/of*of}
	if kind == 0 {
		l = append(l, -1, -kind-3, math.MinInt)
	}
	return l
}

// turns says what a side does at a choice, and at those of which as much is left.
func turns(t *testing.T, side int, l []api.Raw, choice int, want ...api.Raw) {
	t.Helper()
	for _, n := range choices(choice, 10) {
		got := peer.Turn(side, l, n)
		if !same(got, want) {
			t.Errorf("%d, %d: %+v, want %+v", side, n, got, want)
		}
	}
}

func TestP48Opens(t *testing.T) {
	for choice := -3; choice < 25; choice++ {
		for _, l := range [][]api.Raw{nil, driver.Open(server), {get(1), head(server, 1)}, {raw(2, 6, 0, 0, nine8)}} {
			for side := range 2 {
				mine := slices.ContainsFunc(l, func(r api.Raw) bool { return r.From == side })
				if got := peer.Turn(side, l, choice); !mine && !same(got, driver.Open(side)) {
					t.Error(side, l, choice, got)
				}
			}
			for _, side := range []int{-1, 2, math.MaxInt, math.MinInt} {
				if got := peer.Turn(side, l, choice); len(got) > 0 {
					t.Error(side, l, choice, got)
				}
			}
		}
	}
	// Any frame counts as something that was sent.
	for side := range 2 {
		if got := peer.Turn(side, list(raw(side, 999, -1, -1, "")), 0); len(got) > 0 {
			t.Error(side, got)
		}
	}
}

func TestP48Turn(t *testing.T) {
	for side := range 2 {
		l := begun()
		turns(t, side, l, 0)
		turns(t, side, l, 1, raw(side, api.Settings, api.FlagAck, 0, ""))
		turns(t, side, l, 3, raw(side, api.Window, 0, 0, "\x00\x00\x00\x64"))
		turns(t, side, l, 4, raw(side, api.Ping, 0, 0, nine8))
		turns(t, side, l, 5, raw(side, api.Settings, 0, 0, "\x00\x04\x00\x00\x00\x64"))
		turns(t, side, l, 8, raw(side, api.Goaway, 0, 0, "\x7f\xff\xff\xff\x00\x00\x00\x00"))
		turns(t, side, l, 9, raw(side, api.Continue, 4, 1, ""))
		l = append(l, raw(1-side, api.Ping, 0, 0, nine8))
		turns(t, side, l, 1, driver.Duties(side, l)...)
		turns(t, side, append(l, driver.Duties(side, l)...), 1)
	}
}

func TestP48TurnOfTheClient(t *testing.T) {
	l := begun()
	turns(t, client, l, 2, get(1))
	turns(t, client, l, 6, cut(client, 1)) // on the stream 1, whether or not something was asked
	turns(t, client, l, 7, data(client, 1))
	l = append(l, get(1), head(server, 1), raw(client, api.Continue, 4, 1, ""), data(client, 1), raw(client, api.Promise, 4, 1, "\x00\x00\x00\x02"))
	turns(t, client, l, 2, get(3))
	turns(t, client, l, 6, cut(client, 1))
	turns(t, client, l, 7, data(client, 1))
	l = append(l, head(client, 1), head(client, 77), ok(77), head(client, 0)) // of any stream
	turns(t, client, l, 2, get(9))
	turns(t, client, l, 6, cut(client, 1))
}

func TestP48TurnOfTheServer(t *testing.T) {
	answers := func(l []api.Raw, stream int) {
		t.Helper()
		if stream == 0 {
			turns(t, server, l, 2)
			turns(t, server, l, 6)
			turns(t, server, l, 7)
			return
		}
		turns(t, server, l, 2, ok(stream))
		turns(t, server, l, 6, cut(server, stream))
		turns(t, server, l, 7, data(server, stream))
	}
	l := begun()
	answers(l, 0)
	answers(append(l, data(client, 5), raw(client, api.Continue, 4, 3, ""), raw(client, api.Priority, 0, 7, "12345")), 0)
	l = append(l, get(5))
	answers(l, 5)
	l = append(l, get(1), get(9))
	answers(l, 5)
	answers(append(l, head(server, 5)), 1)
	answers(append(l, head(server, 1)), 5)
	answers(append(l, head(server, 1), ok(5)), 9)
	answers(append(l, head(server, 1), ok(5), head(server, 9), head(server, 9)), 0)
	answers(append(l, data(server, 5), cut(server, 5), raw(server, api.Promise, 4, 5, "\x00\x00\x00\x02")), 5)
	answers(append(begun(), head(server, 1), head(client, 1)), 0) // the answer may stand ahead
	answers(append(begun(), head(client, 1), head(client, 1), ok(1)), 0)
	answers(append(begun(), head(client, 2)), 2)
	answers(append(begun(), head(client, most)), most)
	// Of what is no stream there is nothing to be sent.
	answers(append(begun(), head(client, 0), head(client, 1)), 0)
	answers(append(begun(), head(client, -5)), 0)
	answers(append(begun(), head(client, most+1)), 0)
}

// TestP48TurnChangesNothing, whatever it is given; and it answers new memory.
func TestP48TurnChangesNothing(t *testing.T) {
	random := rand.New(rand.NewSource(48))
	for range 3000 {
		l := begun()
		for range random.Intn(6) {
			l = append(l, raw(random.Intn(4)-1, random.Intn(12)-1, random.Intn(258)-1, random.Intn(9)-1, nine8[:random.Intn(9)]))
		}
		before := slices.Clone(l)
		for i := range before {
			before[i].Body = bytes.Clone(l[i].Body)
		}
		side, choice := random.Intn(4)-1, random.Intn(40)-5
		first := peer.Turn(side, l, choice)
		for _, r := range first {
			if r.From != side {
				t.Fatal(side, r)
			}
			clear(r.Body)
		}
		again := peer.Turn(side, l, choice)
		if len(again) != len(first) || !same(l, before) {
			t.Fatal(side, choice, l)
		}
	}
}

func TestP48React(t *testing.T) {
	code := func(n int) string { return "\x00\x00\x00" + string(rune(n)) }
	for side := range 2 {
		for _, stream := range []int{1, 2, most} {
			for n := range 2 * 5 * 14 {
				c := code(n / 5 % 14)
				away := raw(side, api.Goaway, 0, 0, "\x00\x00\x00\x00"+c)
				want := [][]api.Raw{
					nil, {away}, {raw(side, api.Reset, 0, stream, c)},
					{raw(side, api.Ping, 0, 0, "\x00\x00\x00\x00\x00\x00\x00\x00"), away},
					{raw(side, api.Window, 0, 0, "\x00\x00\x00\x01")},
				}[n%5]
				if got := peer.React(side, stream, n); !same(got, want) {
					t.Errorf("%d, %d, %d: %+v", side, stream, n, got)
				}
			}
			for _, n := range []int{-1, -4, -70, math.MinInt} {
				if got := peer.React(side, stream, n); len(got) > 0 {
					t.Error(side, stream, n, got)
				}
			}
			n := math.MaxInt / 70 * 70
			if got := peer.React(side, stream, n-70+5*13+1); !same(got, list(raw(side, api.Goaway, 0, 0, "\x00\x00\x00\x00"+code(13)))) {
				t.Error(side, stream, got)
			}
		}
		for _, stream := range []int{0, -1, most + 1, math.MaxInt, math.MinInt} {
			for n := range 70 {
				if got := peer.React(side, stream, n); len(got) > 0 {
					t.Error(side, stream, n, got)
				}
			}
		}
	}
	for _, side := range []int{-1, 2, math.MaxInt, math.MinInt} {
		for n := range 70 {
			if got := peer.React(side, 1, n); len(got) > 0 {
				t.Error(side, n, got)
			}
		}
	}
}

package message_test

import (
	"math"
	"math/rand"
	"slices"
	"strings"
	"testing"

	"stickler/api"
	"stickler/length"
	"stickler/message"
	"stickler/pseudo"
	"stickler/token"
)

func TestP281Kinds(t *testing.T) {
	if message.Request != 0 || message.Response != 1 || message.Trailer != 2 || message.Promise != 3 {
		t.Error("the kinds' numbers")
	}
}

// Whole heads of each kind.
func get() []api.Field {
	return []api.Field{{Name: ":method", Value: "GET"}, {Name: ":scheme", Value: "http"}, {Name: ":path", Value: "/"}}
}

func post() []api.Field {
	l := get()
	l[0].Value = "POST"
	return l
}

func ok200() []api.Field { return []api.Field{{Name: ":status", Value: "200"}} }

var heads = []struct {
	kind int
	l    []api.Field
	want message.Message
}{
	{message.Request, get(), message.Message{Method: "GET"}},
	{message.Response, ok200(), message.Message{Status: 200}},
	{message.Trailer, nil, message.Message{}},
	{message.Promise, get(), message.Message{Method: "GET"}},
}

func with(l []api.Field, more ...api.Field) []api.Field {
	return append(slices.Clone(l), more...)
}

func check(t *testing.T, kind int, l []api.Field, want message.Message, rule int) {
	t.Helper()
	was := slices.Clone(l)
	if m, r := message.Check(kind, l); m != want || r != rule {
		t.Errorf("Check(%d, %v): %v, %d, want %v, %d", kind, l, m, r, want, rule)
	}
	if !slices.Equal(l, was) {
		t.Errorf("Check(%d, %v) has changed them", kind, was)
	}
}

func breaks(t *testing.T, kind int, l []api.Field, rule int) {
	t.Helper()
	check(t, kind, l, message.Message{}, rule)
}

func TestP281Whole(t *testing.T) {
	for _, h := range heads {
		check(t, h.kind, h.l, h.want, 0)
		check(t, h.kind, with(h.l, api.Field{Name: "a", Value: "b", Never: true}, api.Field{Name: "a"}), h.want, 0)
	}
}

func TestP281Field(t *testing.T) {
	for _, h := range heads {
		for _, f := range []api.Field{
			{}, {Value: "b"}, {Name: "A", Value: "b"}, {Name: "a b"}, {Name: "a", Value: " b"}, {Name: "a", Value: "b\x00"}, {Name: "a:b"}, {Name: ":"}, {Name: ":A"}, {Name: "Connection"}, {Name: "TE", Value: "x"},
		} {
			breaks(t, h.kind, with(h.l, f), api.RuleField)
			breaks(t, h.kind, with(h.l, f, api.Field{Name: "a"}), api.RuleField)
			breaks(t, h.kind, with([]api.Field{f}, h.l...), api.RuleField)
		}
	}
}

func TestP281Barred(t *testing.T) {
	for _, h := range heads {
		for _, name := range []string{"connection", "keep-alive", "proxy-connection", "transfer-encoding", "upgrade"} {
			breaks(t, h.kind, with(h.l, api.Field{Name: name, Value: "close"}), api.RuleBarred)
			breaks(t, h.kind, with(h.l, api.Field{Name: name}, api.Field{Name: "a"}), api.RuleBarred)
		}
		for _, value := range []string{"", "gzip", "trailer", "trailers, gzip", "trailers;q=1", "trailerss"} {
			breaks(t, h.kind, with(h.l, api.Field{Name: "te", Value: value}), api.RuleBarred)
			breaks(t, h.kind, with(h.l, api.Field{Name: "te", Value: "trailers"}, api.Field{Name: "te", Value: value}), api.RuleBarred)
		}
		for _, value := range []string{"trailers", "Trailers", "TRAILERS", "traiLerS"} {
			check(t, h.kind, with(h.l, api.Field{Name: "te", Value: value}), h.want, 0)
			check(t, h.kind, with(h.l, api.Field{Name: "te", Value: value}, api.Field{Name: "te", Value: "trailers"}), h.want, 0)
		}
		check(t, h.kind, with(h.l, api.Field{Name: "tea", Value: "gzip"}, api.Field{Name: "t", Value: "gzip"}, api.Field{Name: "upgrades"}), h.want, 0)
	}
}

func TestP281Pseudo(t *testing.T) {
	// Whose head it is that is no head of another kind.
	right := map[int][]int{message.Request: {0, 3}, message.Response: {1}, message.Trailer: {2}, message.Promise: {0, 3}, 4: {2}, -1: {2}, math.MinInt: {2}, math.MaxInt: {2}}
	for kind, places := range right {
		for i, h := range heads {
			if slices.Contains(places, i) {
				check(t, kind, h.l, h.want, 0)
			} else {
				breaks(t, kind, h.l, api.RulePseudo)
			}
		}
	}
	for _, h := range heads {
		breaks(t, h.kind, with(h.l, api.Field{Name: ":x"}), api.RulePseudo)
		breaks(t, h.kind, with(h.l, api.Field{Name: "a"}, api.Field{Name: ":path", Value: "/"}), api.RulePseudo)
	}
}

func TestP281Length(t *testing.T) {
	for _, h := range heads {
		for _, values := range [][]string{{"x"}, {""}, {"1", "2"}, {"+1"}, {"4503599627370497"}, {"1", "1", "x"}} {
			l := slices.Clone(h.l)
			for _, v := range values {
				l = append(l, api.Field{Name: "content-length", Value: v})
			}
			breaks(t, h.kind, l, api.RuleLength)
		}
	}
}

func TestP281Safe(t *testing.T) {
	for method, safe := range map[string]bool{"GET": true, "HEAD": true, "get": false, "head": false, "POST": false, "OPTIONS": false, "GETS": false, "G": false} {
		l := get()
		l[0].Value = method
		check(t, message.Request, l, message.Message{Method: method}, 0)
		if safe {
			check(t, message.Promise, l, message.Message{Method: method}, 0)
		} else {
			breaks(t, message.Promise, l, api.RuleSafe)
		}
	}
	tunnel := []api.Field{{Name: ":method", Value: "CONNECT"}, {Name: ":authority", Value: "a:1"}}
	check(t, message.Request, tunnel, message.Message{Method: "CONNECT"}, 0)
	breaks(t, message.Promise, tunnel, api.RuleSafe)
}

// Each rule goes through all fields ahead of the next rule, so that a later field may break an earlier one.
func TestP281Order(t *testing.T) {
	wrong := []struct {
		f    api.Field
		rule int
	}{
		{api.Field{Name: "A"}, api.RuleField},
		{api.Field{Name: "upgrade"}, api.RuleBarred},
		{api.Field{Name: ":x"}, api.RulePseudo},
		{api.Field{Name: "content-length"}, api.RuleLength},
	}
	for i, a := range wrong {
		for _, kind := range []int{message.Request, message.Promise} {
			late := with([]api.Field{{Name: "a"}}, post()...) // its pseudo-fields are behind another one
			breaks(t, kind, with(late, a.f), min(a.rule, api.RulePseudo))
			for _, b := range wrong[i:] {
				breaks(t, kind, with(post(), a.f, b.f), a.rule)
				breaks(t, kind, with(post(), b.f, a.f), a.rule)
			}
		}
	}
	breaks(t, message.Promise, with(post(), api.Field{Name: "content-length", Value: "1"}), api.RuleSafe)
	breaks(t, message.Promise, nil, api.RulePseudo)
}

func TestP282What(t *testing.T) {
	sized := api.Field{Name: "content-length", Value: "012"}
	twelve := length.Length{N: 12, Told: true}
	check(t, message.Request, with(get(), sized), message.Message{Method: "GET", Length: twelve}, 0)
	check(t, message.Promise, with(get(), sized, sized), message.Message{Method: "GET", Length: twelve}, 0)
	check(t, message.Response, with(ok200(), sized), message.Message{Status: 200, Length: twelve}, 0)
	check(t, message.Trailer, []api.Field{sized}, message.Message{Length: twelve}, 0)
	check(t, 7, []api.Field{sized}, message.Message{Length: twelve}, 0)
	check(t, message.Response, []api.Field{{Name: ":status", Value: "100"}}, message.Message{Status: 100}, 0)
	check(t, message.Trailer, nil, message.Message{}, 0)
	check(t, message.Request, with(get(), api.Field{Name: "content-length", Value: "0"}), message.Message{Method: "GET", Length: length.Length{Told: true}}, 0)
}

// byWords asks the layers below in the order that the document tells.
func byWords(kind int, l []api.Field) (message.Message, int) {
	rule := 0
	breaks := func(n int) {
		if rule == 0 || n < rule {
			rule = n
		}
	}
	for _, f := range l {
		if !token.Field(f) {
			breaks(api.RuleField)
		}
		if token.Barred(f.Name) || f.Name == "te" && !strings.EqualFold(f.Value, "trailers") {
			breaks(api.RuleBarred)
		}
	}
	var h pseudo.Head
	var is bool
	switch kind {
	case message.Request, message.Promise:
		h, is = pseudo.Request(l)
	case message.Response:
		h, is = pseudo.Response(l)
	default:
		is = pseudo.Trailer(l)
	}
	if !is {
		breaks(api.RulePseudo)
	}
	n, is := length.Of(l)
	if !is {
		breaks(api.RuleLength)
	}
	if rule == 0 && kind == message.Promise && h.Method != "GET" && h.Method != "HEAD" {
		breaks(api.RuleSafe)
	}
	if rule != 0 {
		return message.Message{}, rule
	}
	return message.Message{Method: h.Method, Status: h.Status, Length: n}, 0
}

func TestP281Random(t *testing.T) {
	random := rand.New(rand.NewSource(28))
	more := []api.Field{
		{Name: "a", Value: "b"}, {Name: "a", Value: "b"}, {Name: "a", Value: " b"}, {Name: "A"}, {Name: "upgrade"}, {Name: "te", Value: "x"}, {Name: "te", Value: "Trailers"},
		{Name: ":x"}, {Name: ":status", Value: "204"}, {Name: "content-length", Value: "1"}, {Name: "content-length", Value: "01"}, {Name: "content-length", Value: "2"}, {Name: "content-length"},
	}
	starts := [][]api.Field{get(), post(), ok200(), nil}
	seen := map[int]int{}
	for range 200000 {
		l := slices.Clone(starts[random.Intn(len(starts))])
		for range random.Intn(4) {
			l = slices.Insert(l, max(random.Intn(len(l)+1), random.Intn(len(l)+1)), more[random.Intn(len(more))])
		}
		kind := random.Intn(6) - 1
		want, rule := byWords(kind, l)
		seen[rule]++
		if m, r := message.Check(kind, l); m != want || r != rule {
			t.Fatalf("Check(%d, %v): %v, %d, want %v, %d", kind, l, m, r, want, rule)
		}
	}
	for _, rule := range []int{0, api.RuleField, api.RuleBarred, api.RulePseudo, api.RuleLength, api.RuleSafe} {
		if seen[rule] < 100 {
			t.Errorf("rule %d came but %d times", rule, seen[rule])
		}
	}
}

package tally_test

import (
	"math"
	"math/rand"
	"slices"
	"strconv"
	"testing"

	"stickler/api"
	"stickler/message"
	"stickler/tally"
)

// request is the fields of a request of a method; a length below 0 is not told.
func request(method string, length int) []api.Field {
	if method == "CONNECT" {
		return sized([]api.Field{{Name: ":method", Value: method}, {Name: ":authority", Value: "a:1"}}, length)
	}
	return sized([]api.Field{{Name: ":method", Value: method}, {Name: ":scheme", Value: "http"}, {Name: ":path", Value: "/"}}, length)
}

func response(status, length int) []api.Field {
	return sized([]api.Field{{Name: ":status", Value: strconv.Itoa(status)}}, length)
}

func sized(l []api.Field, length int) []api.Field {
	if length < 0 {
		return l
	}
	return append(l, api.Field{Name: "content-length", Value: strconv.Itoa(length)})
}

func trailers() []api.Field { return []api.Field{{Name: "a", Value: "b"}} }

// takes is the Tally behind fields that break no rule.
func takes(t *testing.T, from tally.Tally, l []api.Field, end bool) tally.Tally {
	t.Helper()
	next, _, rule := from.Head(l, end)
	if rule != 0 {
		t.Fatalf("Head(%v, %v): rule %d", l, end, rule)
	}
	return next
}

func head(t *testing.T, from tally.Tally, l []api.Field, end bool, rule int) {
	t.Helper()
	was, fields := from, slices.Clone(l)
	next, m, r := from.Head(l, end)
	if r != rule {
		t.Errorf("Head(%v, %v): rule %d, want %d", l, end, r, rule)
	}
	if rule != 0 && (next != (tally.Tally{}) || m != (message.Message{})) {
		t.Errorf("Head(%v, %v): beside the rule %d stand %v, %v", l, end, r, next, m)
	}
	if rule == 0 && end && !next.Over() {
		t.Errorf("Head(%v, %v): it is not over", l, end)
	}
	if from != was || !slices.Equal(l, fields) {
		t.Errorf("Head(%v, %v) has changed what was given", l, end)
	}
}

func data(t *testing.T, from tally.Tally, n int, end bool, rule int) tally.Tally {
	t.Helper()
	was := from
	next, r := from.Data(n, end)
	if r != rule || rule != 0 && next != (tally.Tally{}) || rule == 0 && next.Over() != end {
		t.Errorf("Data(%d, %v): %v, over %v, rule %d, want %d", n, end, next, next.Over(), r, rule)
	}
	if from != was {
		t.Errorf("Data(%d, %v) has changed its Tally", n, end)
	}
	return next
}

func TestP291Zero(t *testing.T) {
	if tally.Asks() != (tally.Tally{}) {
		t.Error("the zero value is not Asks()")
	}
	if tally.Answers("") == tally.Asks() || tally.Answers("GET") == tally.Asks() {
		t.Error("an answer is no request")
	}
	for _, a := range []tally.Tally{tally.Asks(), {}} {
		head(t, a, request("GET", -1), false, 0)
		head(t, a, request("GET", -1), true, 0)
		head(t, a, response(200, -1), false, api.RulePseudo)
	}
	for _, method := range []string{"", "GET", "HEAD", "CONNECT", "x"} {
		head(t, tally.Answers(method), response(200, -1), false, 0)
		head(t, tally.Answers(method), response(200, -1), true, 0)
		head(t, tally.Answers(method), request("GET", -1), false, api.RulePseudo)
	}
}

func TestP291Check(t *testing.T) {
	bad := map[int]api.Field{
		api.RuleField: {Name: "A"}, api.RuleBarred: {Name: "upgrade"}, api.RulePseudo: {Name: ":x"}, api.RuleLength: {Name: "content-length", Value: "x"},
	}
	for rule, f := range bad {
		for _, end := range []bool{false, true} {
			head(t, tally.Asks(), append(request("POST", -1), f), end, rule)
			head(t, tally.Answers("GET"), append(response(200, -1), f), end, rule)
			head(t, tally.Answers("GET"), append(response(100, -1), f), end, rule)
		}
	}
	for _, end := range []bool{false, true} {
		for _, l := range [][]api.Field{nil, trailers()} {
			head(t, tally.Asks(), l, end, api.RulePseudo)
			head(t, tally.Answers("GET"), l, end, api.RulePseudo)
		}
		head(t, tally.Answers("GET"), response(101, -1), end, api.RulePseudo)
		head(t, tally.Answers("GET"), response(99, -1), end, api.RulePseudo)
	}
	head(t, tally.Asks(), request("POST", -1), false, 0) // what is not safe may be asked
}

func TestP291Interim(t *testing.T) {
	for _, method := range []string{"GET", "HEAD", "CONNECT"} {
		a := tally.Answers(method)
		for _, status := range []int{100, 102, 103, 150, 199} {
			for _, length := range []int{-1, 0, 5} {
				head(t, a, response(status, length), true, api.RuleBody)
				next := takes(t, a, response(status, length), false)
				if next != a || next.Over() {
					t.Errorf("behind %d it doesn't wait as before: %v", status, next)
				}
				data(t, next, 0, false, api.RuleBody)
				data(t, next, 1, true, api.RuleBody)
				head(t, next, trailers(), true, api.RulePseudo)
				head(t, takes(t, next, response(100, -1), false), response(200, -1), true, 0)
			}
		}
		head(t, a, response(200, -1), true, 0)
	}
	if next := takes(t, tally.Answers("GET"), response(200, -1), false); next == tally.Answers("GET") {
		t.Error("behind 200 it waits")
	}
}

// none, open and just so many: what data may come behind first fields.
func isNone(t *testing.T, from tally.Tally, l []api.Field) {
	t.Helper()
	head(t, from, l, true, 0)
	a := takes(t, from, l, false)
	for _, end := range []bool{false, true} {
		data(t, a, 1, end, api.RuleBody)
		data(t, a, math.MaxInt, end, api.RuleBody)
		data(t, a, 0, end, 0)
		data(t, a, -1, end, 0)
		data(t, a, math.MinInt, end, 0)
		data(t, data(t, a, 0, false, 0), 1, end, api.RuleBody)
	}
	head(t, a, trailers(), true, 0)
}

func isOpen(t *testing.T, from tally.Tally, l []api.Field) {
	t.Helper()
	head(t, from, l, true, 0)
	a := takes(t, from, l, false)
	for _, n := range []int{math.MinInt, -1, 0, 1, 5, 1 << 52, math.MaxInt} {
		data(t, a, n, true, 0)
		more := data(t, a, n, false, 0)
		data(t, more, n, false, 0)
		data(t, more, n, true, 0)
		head(t, more, trailers(), true, 0)
	}
	head(t, a, trailers(), true, 0)
}

func isJust(t *testing.T, from tally.Tally, l []api.Field, n int) {
	t.Helper()
	wantAtEnd := 0
	if n > 0 {
		wantAtEnd = api.RuleLength
	}
	head(t, from, l, true, wantAtEnd)
	a := takes(t, from, l, false)
	for _, end := range []bool{false, true} {
		data(t, a, n+1, end, api.RuleLength)
		data(t, a, math.MaxInt, end, api.RuleLength)
		data(t, a, n, end, 0)
	}
	data(t, a, 0, false, 0)
	data(t, a, 0, true, wantAtEnd)
	data(t, a, -1, true, wantAtEnd)
	head(t, a, trailers(), true, wantAtEnd)
	if n > 1 {
		data(t, a, n-1, true, api.RuleLength)
		less := data(t, a, n-1, false, 0)
		data(t, less, 0, true, api.RuleLength)
		data(t, less, -5, true, api.RuleLength)
		data(t, less, 2, true, api.RuleLength)
		data(t, less, 2, false, api.RuleLength)
		data(t, less, 1, true, 0)
		head(t, less, trailers(), true, api.RuleLength)
		data(t, a, 1, true, api.RuleLength) // the Tally itself has stayed
	}
	all := data(t, a, n, false, 0)
	data(t, all, 0, true, 0)
	data(t, all, 1, true, api.RuleLength)
	data(t, all, 1, false, api.RuleLength)
	head(t, all, trailers(), true, 0)
}

func TestP291None(t *testing.T) {
	for _, method := range []string{"", "GET", "POST", "HEAD", "CONNECT"} {
		for _, length := range []int{-1, 0, 5} {
			isNone(t, tally.Answers(method), response(204, length))
			isNone(t, tally.Answers(method), response(304, length))
		}
	}
	for _, status := range []int{200, 203, 205, 299, 303, 305, 404, 500, 999} {
		for _, length := range []int{-1, 0, 5} {
			isNone(t, tally.Answers("HEAD"), response(status, length))
		}
	}
	isNone(t, takes(t, tally.Answers("HEAD"), response(103, -1), false), response(200, 5))
}

func TestP291Open(t *testing.T) {
	for _, length := range []int{-1, 0, 5} {
		isOpen(t, tally.Asks(), request("CONNECT", length))
		for _, status := range []int{200, 201, 203, 205, 298, 299} {
			isOpen(t, tally.Answers("CONNECT"), response(status, length))
		}
	}
	for _, method := range []string{"GET", "HEAD", "POST", "connect"} {
		isOpen(t, tally.Asks(), request(method, -1))
	}
	for _, method := range []string{"", "GET", "POST", "CONNECT", "head", "connect"} {
		for _, status := range []int{200, 203, 205, 300, 303, 305, 404, 999} {
			isOpen(t, tally.Answers(method), response(status, -1))
		}
	}
	isOpen(t, takes(t, tally.Answers("CONNECT"), response(100, 3), false), response(200, 5))
	isOpen(t, takes(t, tally.Answers("GET"), response(100, 3), false), response(200, -1)) // a length is of its own fields alone
}

func TestP291Just(t *testing.T) {
	for _, n := range []int{0, 1, 2, 5, 1 << 31, 1<<52 - 1, 1 << 52} {
		for _, method := range []string{"GET", "HEAD", "POST", "connect"} {
			isJust(t, tally.Asks(), request(method, n), n)
		}
		for _, method := range []string{"", "GET", "POST", "CONNECT", "head"} {
			for _, status := range []int{300, 303, 305, 404, 999} {
				isJust(t, tally.Answers(method), response(status, n), n)
			}
		}
		for _, status := range []int{200, 203, 205, 299} {
			isJust(t, tally.Answers("GET"), response(status, n), n)
			isJust(t, tally.Answers("connect"), response(status, n), n)
		}
	}
	isJust(t, takes(t, tally.Answers("GET"), response(100, 3), false), response(200, 5), 5)
	l := append(request("POST", 5), api.Field{Name: "content-length", Value: "05"})
	isJust(t, tally.Asks(), l, 5)
}

func TestP292Data(t *testing.T) {
	over := takes(t, tally.Asks(), request("GET", -1), true)
	for _, n := range []int{math.MinInt, -1, 0, 1, math.MaxInt} {
		for _, end := range []bool{false, true} {
			data(t, tally.Asks(), n, end, api.RuleBody)
			data(t, tally.Tally{}, n, end, api.RuleBody)
			data(t, tally.Answers("GET"), n, end, api.RuleBody)
			data(t, over, n, end, api.RuleBody)
		}
	}
	a := takes(t, tally.Asks(), request("POST", 5), false)
	b := data(t, a, 3, false, 0)
	data(t, b, 2, true, 0)
	data(t, b, 3, true, api.RuleLength)
	data(t, b, 1, true, api.RuleLength)
	c := data(t, b, -7, false, 0)
	data(t, c, 3, false, api.RuleLength)
	data(t, c, 2, true, 0)
	data(t, data(t, c, 2, true, 0), 0, true, api.RuleBody)
}

func TestP293Trailers(t *testing.T) {
	for _, from := range []tally.Tally{
		takes(t, tally.Asks(), request("POST", 5), false),
		takes(t, tally.Asks(), request("POST", -1), false),
		takes(t, tally.Answers("GET"), response(200, 5), false),
		takes(t, tally.Answers("HEAD"), response(200, 5), false),
		takes(t, tally.Answers("CONNECT"), response(200, -1), false),
	} {
		for _, l := range [][]api.Field{nil, trailers(), {{Name: "A"}}, {{Name: ":x"}}, request("GET", -1), response(200, -1), response(100, -1)} {
			head(t, from, l, false, api.RuleTrailer)
		}
		head(t, from, []api.Field{{Name: "A"}}, true, api.RuleField)
		head(t, from, []api.Field{{Name: "connection"}}, true, api.RuleBarred)
		head(t, from, request("GET", -1), true, api.RulePseudo)
		head(t, from, response(200, -1), true, api.RulePseudo)
		head(t, from, []api.Field{{Name: "a"}, {Name: ":path", Value: "/"}}, true, api.RulePseudo)
		head(t, from, []api.Field{{Name: "content-length", Value: "x"}}, true, api.RuleLength)
	}
	five := takes(t, tally.Asks(), request("POST", 5), false)
	head(t, five, trailers(), true, api.RuleLength)
	head(t, data(t, five, 4, false, 0), nil, true, api.RuleLength)
	all := data(t, five, 5, false, 0)
	head(t, all, nil, true, 0)
	head(t, all, trailers(), true, 0)
	head(t, all, []api.Field{{Name: "content-length", Value: "99"}}, true, 0) // what trailers tell is of no account
	zero := takes(t, tally.Asks(), request("POST", 0), false)
	head(t, zero, trailers(), true, 0)
}

func TestP293Over(t *testing.T) {
	for _, over := range []tally.Tally{
		takes(t, tally.Asks(), request("GET", -1), true),
		takes(t, tally.Answers("GET"), response(200, -1), true),
		takes(t, takes(t, tally.Asks(), request("GET", -1), false), trailers(), true),
		data(t, takes(t, tally.Answers("GET"), response(200, 3), false), 3, true, 0),
	} {
		for _, l := range [][]api.Field{nil, trailers(), {{Name: "A"}}, request("GET", -1), response(200, -1), response(100, -1)} {
			for _, end := range []bool{false, true} {
				head(t, over, l, end, api.RuleTrailer)
			}
		}
	}
}

func TestP294Over(t *testing.T) {
	for _, a := range []tally.Tally{{}, tally.Asks(), tally.Answers(""), tally.Answers("HEAD"), takes(t, tally.Asks(), request("GET", 0), false), takes(t, tally.Answers("HEAD"), response(204, 0), false)} {
		if a.Over() {
			t.Errorf("%v is over", a)
		}
	}
	just := data(t, takes(t, tally.Asks(), request("GET", 3), false), 3, false, 0)
	if just.Over() {
		t.Error("all that were told have come, but nobody has ended it")
	}
	if !takes(t, just, trailers(), true).Over() || !data(t, just, 0, true, 0).Over() {
		t.Error("it is not over")
	}
}

func TestP294Message(t *testing.T) {
	said := func(from tally.Tally, kind int, l []api.Field, end bool) {
		t.Helper()
		want, rule := message.Check(kind, l)
		if rule != 0 {
			t.Fatal("Check:", rule)
		}
		if _, m, rule := from.Head(l, end); m != want || rule != 0 {
			t.Errorf("Head(%v, %v): %v, %d, want %v", l, end, m, rule, want)
		}
	}
	for _, method := range []string{"GET", "CONNECT"} {
		said(tally.Asks(), message.Request, request(method, 5), false)
		said(tally.Asks(), message.Request, request(method, -1), true)
		said(tally.Answers(method), message.Response, response(100, 7), false)
		said(tally.Answers(method), message.Response, response(204, 7), true)
		said(tally.Answers(method), message.Response, response(404, 0), true)
	}
	open := takes(t, tally.Asks(), request("POST", -1), false)
	said(open, message.Trailer, trailers(), true)
	said(open, message.Trailer, sized(trailers(), 12), true)
}

// model is a message by the document's words: all that was taken of it.
type model struct {
	method string // of the request that is answered
	asks   bool
	behind bool // its first fields, which are no interim ones, have come
	said   message.Message
	bytes  int
	over   bool
}

func (m model) none() bool {
	return !m.asks && (m.said.Status == 204 || m.said.Status == 304 || m.method == "HEAD")
}

func (m model) just() bool {
	tunnel := m.asks && m.said.Method == "CONNECT" || !m.asks && m.method == "CONNECT" && m.said.Status >= 200 && m.said.Status <= 299
	return !m.none() && !tunnel && m.said.Length.Told
}

func (m model) head(l []api.Field, end bool) (model, message.Message, int) {
	kind := message.Trailer
	switch {
	case m.over || m.behind && !end:
		return m, message.Message{}, api.RuleTrailer
	case !m.behind && m.asks:
		kind = message.Request
	case !m.behind:
		kind = message.Response
	}
	said, rule := message.Check(kind, l)
	if rule != 0 {
		return m, message.Message{}, rule
	}
	if said.Status >= 100 && said.Status <= 199 {
		if end {
			return m, message.Message{}, api.RuleBody
		}
		return m, said, 0
	}
	next := m
	if !m.behind {
		next.behind, next.said = true, said
	}
	if end && next.just() && next.bytes != next.said.Length.N {
		return m, message.Message{}, api.RuleLength
	}
	next.over = end
	return next, said, 0
}

func (m model) data(n int, end bool) (model, int) {
	n = max(n, 0)
	if !m.behind || m.over || n > 0 && m.none() {
		return m, api.RuleBody
	}
	next := m
	next.bytes += n
	next.over = end
	if next.just() && (next.bytes > next.said.Length.N || end && next.bytes < next.said.Length.N) {
		return m, api.RuleLength
	}
	return next, 0
}

func anyFields(random *rand.Rand) []api.Field {
	methods := []string{"GET", "HEAD", "POST", "CONNECT"}
	statuses := []int{100, 101, 103, 200, 204, 299, 300, 304, 404}
	length := random.Intn(6) - 2
	var l []api.Field
	switch random.Intn(3) {
	case 0:
		l = request(methods[random.Intn(len(methods))], length)
	case 1:
		l = response(statuses[random.Intn(len(statuses))], length)
	default:
		l = sized(trailers(), length)
	}
	if random.Intn(20) == 0 {
		l = append(l, api.Field{Name: "upgrade"})
	}
	return l
}

func TestP291Random(t *testing.T) {
	random := rand.New(rand.NewSource(29))
	methods := []string{"", "GET", "HEAD", "POST", "CONNECT"}
	seen := map[int]int{}
	for range 30000 {
		a, m := tally.Asks(), model{asks: true}
		if random.Intn(2) > 0 {
			method := methods[random.Intn(len(methods))]
			a, m = tally.Answers(method), model{method: method}
		}
		for range 12 {
			end := random.Intn(4) == 0
			var next tally.Tally
			var rule, want int
			if random.Intn(2) > 0 {
				n := random.Intn(4) - 1
				next, rule = a.Data(n, end)
				m, want = m.data(n, end)
			} else {
				l := anyFields(random)
				var said, wanted message.Message
				next, said, rule = a.Head(l, end)
				m, wanted, want = m.head(l, end)
				if said != wanted {
					t.Fatalf("Head(%v, %v): %v, want %v", l, end, said, wanted)
				}
			}
			seen[rule]++
			if rule != want || rule != 0 && next != (tally.Tally{}) || rule == 0 && next.Over() != m.over {
				t.Fatalf("rule %d, want %d, behind %+v: over %v", rule, want, m, next.Over())
			}
			if rule == 0 {
				a = next
			}
		}
	}
	for _, rule := range []int{0, api.RuleBarred, api.RulePseudo, api.RuleLength, api.RuleBody, api.RuleTrailer} {
		if seen[rule] < 100 {
			t.Errorf("rule %d came but %d times", rule, seen[rule])
		}
	}
}

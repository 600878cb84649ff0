package pending_test

import (
	"math/rand"
	"slices"
	"testing"

	"stickler/api"
	"stickler/pending"
	"stickler/setting"
)

func window(n int) []api.Setting { return []api.Setting{{Id: api.SetWindow, Value: n}} }

// is holds a queue against the values of all numbers, and what must be possible.
func is(t *testing.T, q *pending.Queue, all []api.Values, acked, least int) {
	t.Helper()
	if q.Sent() != len(all)-1 || q.Acked() != acked || q.Least() != least {
		t.Fatalf("sent %d, acked %d, least %d; want %d, %d, %d", q.Sent(), q.Acked(), q.Least(), len(all)-1, acked, least)
	}
	if !slices.Equal(q.All(), all[least:]) || q.Newest() != all[len(all)-1] {
		t.Fatalf("All %v, Newest %v; want %v", q.All(), q.Newest(), all[least:])
	}
	if n := len(q.All()); n > q.Sent()-q.Acked()+1 {
		t.Fatalf("%d are possible, %d not acknowledged", n, q.Sent()-q.Acked())
	}
}

// push pushes windows of 1, 2 and so on, and tells the values of all numbers.
func push(q *pending.Queue, n int) []api.Values {
	all := []api.Values{setting.Initial()}
	for i := range n {
		q.Push(window(i + 1))
		all = append(all, setting.Apply(all[i], window(i+1)))
	}
	return all
}

func TestP321Push(t *testing.T) {
	q := pending.New()
	all := []api.Values{setting.Initial()}
	is(t, q, all, 0, 0)
	lists := [][]api.Setting{
		nil, {},
		{{Id: api.SetTable, Value: 7}, {Id: api.SetFrame, Value: 1 << 15}},
		{{Id: api.SetPush, Value: 0}, {Id: api.SetStreams, Value: 9}, {Id: api.SetPush, Value: 1}},
		{{Id: 77, Value: 5}},
		{{Id: api.SetList, Value: -5}, {Id: api.SetWindow, Value: 1 << 40}},
	}
	for _, l := range lists {
		was := slices.Clone(l)
		q.Push(l)
		if !slices.Equal(l, was) {
			t.Errorf("Push has changed %v", was)
		}
		all = append(all, setting.Apply(all[len(all)-1], l))
		is(t, q, all, 0, 0)
	}
}

func TestP321Kept(t *testing.T) {
	q := pending.New()
	l := window(5)
	q.Push(l)
	l[0].Value = 6 // what was pushed is a copy
	if q.Newest().Window != 5 {
		t.Error("Newest:", q.Newest())
	}
	q.All()[1].Window = 7
	if q.Newest().Window != 5 || q.All()[1].Window != 5 {
		t.Error("All is not new:", q.All())
	}
}

func TestP321Ack(t *testing.T) {
	q := pending.New()
	if q.Ack() {
		t.Error("nothing was pushed")
	}
	all := push(q, 3)
	for n := range 3 {
		is(t, q, all, n, n)
		if !q.Ack() {
			t.Fatal("Ack", n)
		}
	}
	is(t, q, all, 3, 3)
	for range 2 {
		if q.Ack() {
			t.Error("all were acknowledged")
		}
		is(t, q, all, 3, 3)
	}
	q.Push(window(9))
	is(t, q, append(all, setting.Apply(all[3], window(9))), 3, 3)
	if !q.Ack() || q.Ack() {
		t.Error("one more was pushed")
	}
}

func TestP322Narrow(t *testing.T) {
	q := pending.New()
	all := push(q, 4)
	for _, none := range [][]bool{nil, {}, {false}, {false, false, false, false, false}, {false, false, false, false, false, true}, {5: true, 6: true, 100: true}} {
		was := slices.Clone(none)
		if q.Narrow(none) || !slices.Equal(was, none) {
			t.Fatal("Narrow", none)
		}
		is(t, q, all, 0, 0)
	}
	yes := func(may []bool, least int) {
		t.Helper()
		was := slices.Clone(may)
		if !q.Narrow(may) || !slices.Equal(was, may) {
			t.Fatal("Narrow", was)
		}
		is(t, q, all, 0, least)
	}
	yes([]bool{true}, 0) // it may have risen since
	yes([]bool{true, false, false, false, false}, 0)
	yes([]bool{true, true, true, true, true, true, true}, 0)
	yes([]bool{false, true, false, true}, 1)
	yes([]bool{true, false, true}, 1)
	yes([]bool{false, false, true, true, true}, 3) // counted from Least on
	if q.Narrow([]bool{false, false, true}) || q.Narrow([]bool{2: true, 3: true}) {
		t.Error("there is no number 5")
	}
	is(t, q, all, 0, 3)
	yes([]bool{false, true, true}, 4)
	yes([]bool{true}, 4)
}

func TestP322Ack(t *testing.T) {
	q := pending.New()
	all := push(q, 4)
	if !q.Narrow([]bool{false, false, true}) {
		t.Fatal("Narrow")
	}
	for n, least := range []int{2, 2, 2, 3, 4} {
		is(t, q, all, n, least)
		if q.Ack() != (n < 4) {
			t.Fatal("Ack", n)
		}
	}
	is(t, q, all, 4, 4)
	if q.Narrow([]bool{false, true}) {
		t.Error("there is no number 5")
	}
	q.Push(window(8))
	all = append(all, setting.Apply(all[4], window(8)))
	is(t, q, all, 4, 4)
	if !q.Narrow([]bool{false, true}) {
		t.Error("there is a number 5")
	}
	is(t, q, all, 4, 5)
}

func TestP322Nobody(t *testing.T) {
	var none *pending.Queue
	none.Push(window(3))
	if none.Sent() != 0 || none.Acked() != 0 || none.Least() != 0 || none.Newest() != (api.Values{}) || len(none.All()) != 0 || none.Ack() || none.Narrow([]bool{true}) || none.Narrow(nil) {
		t.Error("of nil there is something")
	}
	var bare pending.Queue
	is(t, &bare, []api.Values{setting.Initial()}, 0, 0)
	if bare.Ack() || !bare.Narrow([]bool{true}) || bare.Narrow([]bool{false, true}) {
		t.Error("one that nobody made is as a new one")
	}
	all := push(&bare, 2)
	is(t, &bare, all, 0, 0)
	if !bare.Ack() {
		t.Error("Ack")
	}
	is(t, &bare, all, 1, 1)
}

func TestP323Long(t *testing.T) {
	q := pending.New()
	all := push(q, 20000)
	is(t, q, all, 0, 0)
	for range 20000 {
		if !q.Ack() {
			t.Fatal("Ack")
		}
	}
	is(t, q, all, 20000, 20000)
}

// model is each number that may be, found by going through all ways in which it may have gone.
type model struct {
	all   []api.Values
	acked int
	now   map[int]bool // which numbers the other side may have had when the last call was made
}

// rise is all that may come of the numbers.
func (m *model) rise() {
	for n := range m.all {
		if m.now[n] {
			for up := n; up < len(m.all); up++ {
				m.now[up] = true
			}
			return
		}
	}
}

func (m *model) keep(may func(n int) bool) bool {
	m.rise()
	next := map[int]bool{}
	for n := range m.now {
		if may(n) {
			next[n] = true
		}
	}
	if len(next) == 0 {
		return false
	}
	m.now = next
	return true
}

func (m *model) least() int {
	m.rise()
	least := len(m.all)
	for n := range m.now {
		least = min(least, n)
	}
	return least
}

func TestP322Random(t *testing.T) {
	random := rand.New(rand.NewSource(32))
	for range 3000 {
		q := pending.New()
		m := model{all: []api.Values{setting.Initial()}, now: map[int]bool{0: true}}
		for step := range 30 {
			switch random.Intn(3) {
			case 0:
				l := []api.Setting{{Id: random.Intn(8), Value: step}}
				q.Push(l)
				m.all = append(m.all, setting.Apply(m.all[len(m.all)-1], l))
			case 1:
				want := m.acked < len(m.all)-1
				if want {
					m.acked++
					m.keep(func(n int) bool { return n >= m.acked })
				}
				if q.Ack() != want {
					t.Fatal("Ack", !want)
				}
			default:
				may := make([]bool, random.Intn(6))
				for i := range may {
					may[i] = random.Intn(3) == 0
				}
				least := m.least()
				want := m.keep(func(n int) bool { return n-least < len(may) && may[n-least] })
				if q.Narrow(may) != want {
					t.Fatal("Narrow", may, !want)
				}
			}
			is(t, q, m.all, m.acked, m.least())
		}
	}
}

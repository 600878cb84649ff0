package monitor_test

import (
	"math/bits"
	"math/rand"
	"slices"
	"testing"

	"stickler/api"
	"stickler/core"
	"stickler/faults"
	"stickler/life"
	"stickler/monitor"
	"stickler/rules"
	"stickler/setting"
)

// run is what one run has come to: of each side's settings the number to which the other side keeps, and the closed streams of which the side knows (bits, by the order in which they were closed).
type run struct {
	number [2]int
	knows  [2]uint
}

// model is all runs that allow all that came, one by one.
type model struct {
	c      api.Config
	core   *core.Core
	values [2][]api.Values
	acked  [2]int
	closed []int
	runs   map[run]bool
}

func newModel(c api.Config) *model {
	k, _ := core.New(c)
	first := []api.Values{setting.Initial()}
	return &model{c: c, core: k, values: [2][]api.Values{first, first}, runs: map[run]bool{{}: true}}
}

// pass lets time pass: numbers rise, streams are forgotten.
func (m *model) pass() {
	next := map[run]bool{}
	var reach func(run)
	reach = func(r run) {
		if next[r] {
			return
		}
		next[r] = true
		for side := range 2 {
			if r.number[side] < len(m.values[side])-1 {
				risen := r
				risen.number[side]++
				reach(risen)
			}
			for left := r.knows[side]; left > 0; left &= left - 1 {
				less := r
				less.knows[side] &^= left & -left
				reach(less)
			}
		}
	}
	for r := range m.runs {
		reach(r)
	}
	m.runs = next
}

func (m *model) step(t *testing.T, r api.Raw) api.Outcome {
	m.pass()
	if e := m.core.Look(r); e != api.OK {
		t.Fatal(e)
	}
	to := 1 - r.From
	late, isLate := m.core.Late()
	bit := uint(0)
	if isLate {
		bit = 1 << slices.Index(m.closed, late)
	}
	next := map[run]bool{}
	var broken []int
	said := 0
	for x := range m.runs {
		answer, rule := m.core.Ask(m.values[to][x.number[to]], x.knows[to]&bit > 0)
		switch {
		case answer == life.Break:
			broken = append(broken, rule)
		case said != 0 && said != answer:
			t.Fatal("runs differ in what it means")
		default:
			said = answer
			next[x] = true
		}
	}
	if said == 0 {
		o := api.Outcome{Kind: api.Rejected, Rules: rules.Of(broken...)}
		for _, rule := range o.Rules {
			o.Faults = append(o.Faults, rules.Faults(rule, r)...)
		}
		o.Faults = faults.Of(o.Faults...)
		return o
	}
	m.runs = next
	return m.do(r, said)
}

func (m *model) do(r api.Raw, said int) api.Outcome {
	before := m.core.Memory(0).Len()
	l, e := m.core.Do(said)
	if e != api.OK {
		return api.Outcome{Kind: api.Limited}
	}
	to := 1 - r.From
	if r.Type == api.Settings && r.Flags&api.FlagAck > 0 {
		m.acked[to]++
		m.raise(to)
	} else if r.Type == api.Settings {
		list, _ := setting.Parse(r.Body)
		all := m.values[r.From]
		m.values[r.From] = append(slices.Clone(all), setting.Apply(all[len(all)-1], list))
	}
	if m.core.Memory(0).Len() > before {
		m.close(r.Stream)
	}
	kind := api.Allowed
	if said == life.Ignore {
		kind = api.Ignored
	}
	return api.Outcome{Kind: kind, Fields: l}
}

// raise lets the numbers of all runs be those that are acknowledged at least.
func (m *model) raise(side int) {
	next := map[run]bool{}
	for x := range m.runs {
		x.number[side] = max(x.number[side], m.acked[side])
		next[x] = true
	}
	m.runs = next
}

// close is a closed stream more, which comes into each set, or not.
func (m *model) close(id int) {
	m.closed = append(m.closed, id)
	m.pass()
	for side := range 2 {
		next := map[run]bool{}
		for x := range m.runs {
			next[x] = true
			x.knows[side] |= 1 << (len(m.closed) - 1)
			if bits.OnesCount(x.knows[side]) <= m.c.Grace {
				next[x] = true
			}
		}
		m.runs = next
	}
}

// variants is how many numbers of a side's settings the other one may keep to.
func (m *model) variants(side int) int {
	least := len(m.values[side])
	for x := range m.runs {
		least = min(least, x.number[side])
	}
	return len(m.values[side]) - least
}

func same(a, b api.Outcome) bool {
	return a.Kind == b.Kind && slices.Equal(a.Fields, b.Fields) && slices.Equal(a.Rules, b.Rules) && faults.Same(a.Faults, b.Faults)
}

// some is a frame that may be allowed or not.
func some(random *rand.Rand) api.Raw {
	from := random.Intn(2)
	of := func(l ...int) int { return l[random.Intn(len(l))] }
	stream := of(1, 1, 3, 3, 5, 2)
	switch random.Intn(16) {
	case 0, 1:
		settings := []int{api.SetTable, of(0, 100, 4096, 6000), api.SetFrame, of(16384, 20000, 40000), api.SetWindow, of(0, 5, 10, 65535), api.SetStreams, of(0, 1, 2, 3), api.SetPush, of(0, 1-from)}
		i := 2 * random.Intn(5)
		return sets(from, settings[i:i+2*of(1, 1, 5-i/2)]...)
	case 2, 3:
		return ack(from)
	case 4, 5:
		return get(of(1, 3, 5, 7), of(0, 0, end))
	case 6:
		return get(of(1, 3, 5, 7), end, [][]int{{0}, {100}, {5000}, {0, 100}, {100, 5000}}[random.Intn(5)]...)
	case 7:
		return status(stream, of(0, 0, end))
	case 8:
		return reset(from, stream)
	case 9, 10, 11:
		return data(from, stream, of(0, 1, 5, 6, 10, 11), of(0, 0, 0, end))
	case 12:
		return data(from, stream, of(16384, 16385, 20000), 0)
	case 13:
		return long(from, of(1, 16385, 20000, 20001, 40000))
	case 14:
		return push(stream, of(2, 4, 6))
	}
	return [...]api.Raw{grow(from, stream, of(1, 1000)), grow(from, 0, 70000), away(from, of(1, 3, 100)), headers(from, stream, end, "a=b"), raw(from, api.Priority, 0, stream, 0, 0, 0, 0, 0)}[random.Intn(5)]
}

// judged is what a trace comes to by a monitor, and by all runs.
func judged(t *testing.T, c api.Config, l []api.Raw) api.Outcome {
	t.Helper()
	m, _ := monitor.New(c)
	all := newModel(c)
	var o api.Outcome
	for i, r := range l {
		o = step(t, m, r)
		want := all.step(t, r)
		if !same(o, want) || m.Over() != (o.Kind == api.Rejected || o.Kind == api.Limited) {
			t.Fatalf("%d of %+v: %+v, want %+v", i, l, o, want)
		}
		if m.Over() {
			break
		}
		for side := range 2 {
			if n := m.Variants(side); n != all.variants(side) || n > len(all.values[side])-all.acked[side] {
				t.Fatalf("%d of %+v: Variants(%d) is %d, want %d", i, l, side, n, all.variants(side))
			}
		}
	}
	return o
}

func TestP402Runs(t *testing.T) {
	random := rand.New(rand.NewSource(402))
	count := map[int]int{}
	several := 0
	for i := range 200 {
		c := graced(i % 4)
		l := both()
		for range 60 {
			next := append(slices.Clone(l), some(random))
			o := judged(t, c, next)
			count[o.Kind]++
			if len(o.Rules) > 1 {
				several++
			}
			if o.Kind == api.Allowed || o.Kind == api.Ignored {
				l = next
			}
		}
	}
	if count[api.Allowed] < 1000 || count[api.Ignored] < 300 || count[api.Rejected] < 1000 || count[api.Limited] < 10 || several < 50 {
		t.Error("too few of a kind:", count, several)
	}
}

func TestP404Grace(t *testing.T) {
	random := rand.New(rand.NewSource(404))
	longer := 0
	for range 300 {
		l := both()
		short := random.Intn(3)
		for range 60 {
			r := some(random)
			m := made(t, graced(short), l)
			if step(t, m, r); m.Over() {
				m = made(t, graced(short+1), l)
				if step(t, m, r); !m.Over() {
					longer++
				}
				continue
			}
			l = append(l, r)
		}
		made(t, graced(short+1+random.Intn(5)), l)
	}
	if longer < 50 {
		t.Error("a longer Grace allows hardly more:", longer)
	}
}

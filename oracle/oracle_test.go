package oracle_test

import (
	"bytes"
	"math"
	"math/rand"
	"slices"
	"testing"

	"stickler/api"
	"stickler/chunks"
	"stickler/monitor"
	"stickler/oracle"
	"stickler/record"
)

var noSides = []int{-1, 2, math.MinInt, math.MaxInt}

func wrongConfigs() []api.Config {
	l := []api.Config{{}}
	for i := range 12 {
		c := conf()
		*[...]*int{&c.Grace, &c.Streams, &c.Block, &c.Queue, &c.Pings, &c.Table}[i/2] = [...]int{-1, 1<<20 + 1}[i%2]
		l = append(l, c)
	}
	return l
}

func made(t *testing.T, c api.Config, l ...api.Chunk) *oracle.Oracle {
	t.Helper()
	o, e := oracle.New(c)
	if e != api.OK {
		t.Fatal(e)
	}
	feed(t, o, l...)
	return o
}

func feed(t *testing.T, o *oracle.Oracle, l ...api.Chunk) {
	t.Helper()
	for _, p := range l {
		was := bytes.Clone(p.B)
		if e := o.Feed(p); e != api.OK || !bytes.Equal(p.B, was) {
			t.Fatal(e)
		}
	}
}

func TestP421New(t *testing.T) {
	for _, c := range wrongConfigs() {
		if o, e := oracle.New(c); o != nil || e != api.ErrArg {
			t.Errorf("%+v: %v", c, e)
		}
	}
	for _, c := range []api.Config{conf(), {Streams: 1, Queue: 1, Table: 4096}, {Grace: 64, Streams: 1024, Block: 1 << 20, Queue: 32, Pings: 64, Table: 1 << 20}} {
		if x := made(t, c).Report(); !same(x, api.Report{Config: c, Verdict: api.Allowed}) {
			t.Errorf("%+v", x)
		}
	}
}

func TestP421Feed(t *testing.T) {
	o := made(t, conf(), pieces(begin())...)
	before := o.Report()
	for _, from := range noSides {
		for _, b := range [][]byte{nil, wire(ping(server)), make([]byte, 99)} {
			if e := o.Feed(api.Chunk{From: from, B: b}); e != api.ErrArg || !same(o.Report(), before) {
				t.Errorf("%d: %v", from, e)
			}
		}
	}
	feed(t, o, api.Chunk{}, api.Chunk{From: 1}, api.Chunk{B: []byte{}})
	if !same(o.Report(), before) {
		t.Errorf("%+v", o.Report())
	}
	// Several frames end with one piece, and what is behind them waits.
	feed(t, o, api.Chunk{From: 1, B: slices.Concat(wire(ping(server)), wire(raw(server, 88, 3, 4, 5)), []byte{0, 0})})
	want := append(before.Records, api.Record{From: 1, Type: 6, Length: 8, Kind: api.Allowed}, api.Record{From: 1, Type: 88, Flags: 3, Stream: 4, Length: 1, Kind: api.Ignored})
	if x := o.Report(); !slices.Equal(x.Records, want) || x.At != 5 || x.Left != [2]int{0, 2} {
		t.Errorf("%+v", x)
	}
}

func TestP421Over(t *testing.T) {
	l := append(begin(), raw(client, api.Ping, 0, 0, 1), ping(client), ping(client))
	var all []byte
	for _, r := range l {
		if r.From == client {
			all = append(all, wire(r)...)
		}
	}
	// What is behind the frame in one piece isn't judged.
	o := made(t, conf(), api.Chunk{From: server, B: wire(sets(server))}, api.Chunk{B: all})
	x := o.Report()
	if x.Verdict != api.Rejected || x.At != 3 || len(x.Records) != 4 || x.Left != [2]int{} {
		t.Errorf("%+v", x)
	}
	feed(t, o, api.Chunk{B: []byte{1, 2, 3}}, api.Chunk{From: server, B: wire(ping(server))}, api.Chunk{From: server, B: []byte{0}})
	for _, from := range noSides {
		if e := o.Feed(api.Chunk{From: from}); e != api.ErrArg {
			t.Error(from, e)
		}
	}
	if !same(o.Report(), x) {
		t.Errorf("%+v", o.Report())
	}
}

func TestP421Kinds(t *testing.T) {
	l := begin(get(1, 0), reset(server, 1), data(client, 1, 5, 0), raw(server, 200, 1, 2), ping(client))
	x := run(t, conf(), pieces(l))
	var kinds []int
	for i, r := range x.Records {
		kinds = append(kinds, r.Kind)
		if want := record.Of(l[i], api.Outcome{Kind: r.Kind}); r != want {
			t.Errorf("%d: %+v, not %+v", i, r, want)
		}
	}
	if !slices.Equal(kinds, []int{1, 1, 1, 1, 1, 2, 2, 1}) || x.Verdict != api.Allowed || x.At != 8 {
		t.Errorf("%+v", x)
	}
}

func TestP422Left(t *testing.T) {
	o := made(t, conf())
	left := func(c, s int) {
		t.Helper()
		if x := o.Report(); x.Left != [2]int{c, s} || x.Verdict != api.Allowed || x.At != len(x.Records) {
			t.Errorf("%+v", x)
		}
	}
	feed(t, o, api.Chunk{B: []byte("PRI")})
	left(3, 0)
	feed(t, o, api.Chunk{From: 1, B: wire(sets(server))}, api.Chunk{From: 1, B: []byte{0, 0, 2, 99, 0, 0, 0, 0, 0, 1}})
	left(3, 10)
	feed(t, o, api.Chunk{From: 1, B: []byte{1}})
	left(3, 0)
}

func TestP422Rejected(t *testing.T) {
	if x := run(t, conf(), []api.Chunk{{From: 1, B: []byte{0, 0, 0, 6, 0, 0, 0, 0, 0}}}); !same(x, api.Report{Config: conf(), Records: []api.Record{{From: 1, Type: 6, Kind: api.Rejected}}, Verdict: api.Rejected, At: 0, Faults: []api.Fault{conn(1)}, Rules: []int{api.RuleFirst}}) {
		t.Errorf("%+v", x)
	}
	c := conf()
	rejects(t, c, 0, "preface", []api.Fault{conn(1)}, []api.Raw{{Type: api.Preface, Body: make([]byte, 24)}})
	rejects(t, c, 4, "ended", []api.Fault{stream(5)}, begin(get(1, end), data(client, 1, 1, 0), ping(server)))
	rejects(t, c, 3, "table", []api.Fault{conn(9)}, begin(raw(client, api.Headers, whole, 1, 128)))
	rejects(t, c, 4, "order", []api.Fault{conn(1)}, begin(raw(client, api.Headers, 0, 1), ping(client)))
	c.Grace = 0
	rejects(t, c, 5, "forgotten", []api.Fault{conn(1), conn(5)}, begin(get(1, 0), reset(server, 1), data(client, 1, 1, 0)))
	rejects(t, conf(), 5, "reset,forgotten", []api.Fault{stream(5), conn(1), conn(5)}, begin(get(1, 0), reset(client, 1), data(client, 1, 1, 0)))
	// What is begun of the other side's frames is told no more.
	o := made(t, conf(), api.Chunk{B: []byte("PRI")}, api.Chunk{From: 1, B: append(wire(ping(server)), 1, 2)})
	if x := o.Report(); x.Left != [2]int{} || x.Verdict != api.Rejected || x.At != 0 {
		t.Errorf("%+v", x)
	}
}

func TestP422Limited(t *testing.T) {
	for at, l := range map[int][]api.Raw{
		6: begin(ping(client), ping(client), ping(client), ping(client), ping(client)),
		5: begin(sets(server), sets(server), sets(server)),
		3: begin(raw(client, api.Headers, 0, 1, make([]byte, 1001)...), data(client, 9, 1, 0)),
	} {
		x := run(t, conf(), append(pieces(l), api.Chunk{From: 1, B: []byte{1}}))
		if x.Verdict != api.Limited || x.At != at || len(x.Records) != at+1 || x.Records[at].Kind != api.Limited || len(x.Faults)+len(x.Rules) > 0 || x.Left != [2]int{} {
			t.Errorf("%d: %+v", at, x)
		}
	}
}

func TestP422Nobody(t *testing.T) {
	var none *oracle.Oracle
	var zero oracle.Oracle
	for _, from := range append(noSides, 0, 1) {
		p := api.Chunk{From: from, B: wire(sets(server))}
		if e := none.Feed(p); e != api.ErrNil {
			t.Error(e)
		}
		if e := zero.Feed(p); e != api.ErrOver {
			t.Error(e)
		}
	}
	if !same(none.Report(), api.Report{}) || !same(zero.Report(), api.Report{}) {
		t.Error(none.Report(), zero.Report())
	}
}

// What is answered is new memory, and what is handed in isn't kept.
func TestP422Memory(t *testing.T) {
	for _, l := range [][]api.Raw{begin(ping(client)), begin(get(1, 0), reset(client, 1), data(client, 1, 1, 0))} {
		o := made(t, conf())
		for _, p := range pieces(l) {
			b := p.B
			for len(b) > 0 {
				piece := bytes.Clone(b[:1])
				feed(t, o, api.Chunk{From: p.From, B: piece})
				piece[0] ^= 255
				b = b[1:]
			}
		}
		want := run(t, conf(), pieces(l))
		x := o.Report()
		if !same(x, want) {
			t.Fatalf("%+v, not %+v", x, want)
		}
		clear(x.Records)
		clear(x.Faults)
		clear(x.Rules)
		if !same(o.Report(), want) {
			t.Errorf("%+v, not %+v", o.Report(), want)
		}
	}
	// A report stays as it is when more is fed.
	o := made(t, conf(), pieces(begin())...)
	x := o.Report()
	feed(t, o, pieces([]api.Raw{ping(client), ping(server)})...)
	if len(x.Records) != 3 || x.At != 3 || o.Report().At != 5 {
		t.Error(x, o.Report())
	}
	_ = append(x.Records[:2], api.Record{From: 9})
	if o.Report().Records[2].From != server {
		t.Error(o.Report())
	}
}

func TestP423Run(t *testing.T) {
	for _, c := range wrongConfigs() {
		for _, l := range [][]api.Chunk{nil, {{From: 2}}, {{From: 1, B: []byte{1}}}} {
			if x, e := oracle.Run(c, l); e != api.ErrArg || !same(x, api.Report{}) {
				t.Errorf("%+v: %+v, %v", c, x, e)
			}
		}
	}
	rejected := pieces([]api.Raw{ping(server)})
	for _, from := range noSides {
		for _, l := range [][]api.Chunk{{{From: from}}, append(pieces(begin()), api.Chunk{From: from}), append([]api.Chunk{{From: from, B: []byte{1}}}, rejected...), append(rejected, api.Chunk{From: from})} {
			if x, e := oracle.Run(conf(), l); e != api.ErrArg || !same(x, api.Report{}) {
				t.Errorf("%+v, %v", x, e)
			}
		}
	}
	for _, l := range [][]api.Chunk{nil, {}, {{}, {From: 1}}} {
		if x := run(t, conf(), l); !same(x, api.Report{Config: conf(), Verdict: api.Allowed}) {
			t.Errorf("%+v", x)
		}
	}
	random := rand.New(rand.NewSource(423))
	for range 100 {
		l := pieces(begin(some(random), some(random), some(random)))
		l = append(l, garbage(random))
		if x, want := run(t, conf(), l), made(t, conf(), l...).Report(); !same(x, want) {
			t.Fatalf("%+v, not %+v", x, want)
		}
	}
}

// judged is what comes of frames by a monitor alone.
func judged(t *testing.T, c api.Config, l []api.Raw) api.Report {
	t.Helper()
	x := api.Report{Config: c, Verdict: api.Allowed, At: len(l)}
	m, _ := monitor.New(c)
	for i, r := range l {
		o, e := m.Step(r)
		if e != api.OK {
			t.Fatal(e)
		}
		x.Records = append(x.Records, record.Of(r, o))
		if m.Over() {
			x.Verdict, x.At, x.Faults, x.Rules = o.Kind, i, o.Faults, o.Rules
			break
		}
	}
	return x
}

// trace is a trace that is allowed as far as its last frame, or all of it, and what comes of it by a monitor alone.
func trace(t *testing.T, random *rand.Rand, c api.Config) ([]api.Raw, api.Report) {
	t.Helper()
	l := begin()
	if random.Intn(10) == 0 {
		l[random.Intn(3)].Body = []byte("PRJ * HTTP/2.0\r\n\r\nSM\r\n\r\n")
	}
	x := judged(t, c, l)
	for tries := 5 + random.Intn(40); tries > 0 && x.Verdict == api.Allowed; tries-- {
		next := append(slices.Clone(l), some(random))
		y := judged(t, c, next)
		if y.Verdict == api.Rejected && random.Intn(12) > 0 {
			continue
		}
		l, x = next, y
	}
	return l[:len(x.Records)], x
}

func TestP424Cuts(t *testing.T) {
	random := rand.New(rand.NewSource(424))
	count := map[int]int{}
	for round := range 600 {
		c := conf()
		c.Grace, c.Pings = round%3, round%4
		l, want := trace(t, random, c)
		count[want.Verdict]++
		if x := run(t, c, pieces(l)); !same(x, want) {
			t.Fatalf("%+v: %+v, not %+v", l, x, want)
		}
		if x := run(t, c, chunks.Join(pieces(l))); !same(x, want) {
			t.Fatalf("joined, %+v: %+v, not %+v", l, x, want)
		}
		if x := run(t, c, chunks.Cut(pieces(l), []int{1 + random.Intn(3), random.Intn(30)})); !same(x, want) {
			t.Fatalf("cut, %+v: %+v, not %+v", l, x, want)
		}
		var rest [2][]byte
		if want.Verdict == api.Allowed {
			// The beginning of a frame that does not end.
			rest = [2][]byte{{0, 0, 4, 0, 0, 0, 0, 0, 1, 7}, {0, 1}}
			want.Left = [2]int{10, 2}
		}
		for range 3 {
			if x := run(t, c, shuffled(random, l, rest)); !same(x, want) {
				t.Fatalf("shuffled, %+v: %+v, not %+v", l, x, want)
			}
		}
	}
	if count[api.Allowed] < 30 || count[api.Rejected] < 200 || count[api.Limited] < 20 {
		t.Error("too few of a kind:", count)
	}
}

func TestP424Behind(t *testing.T) {
	random := rand.New(rand.NewSource(4240))
	ended := 0
	for range 400 {
		c := conf()
		l, want := trace(t, random, c)
		if want.Verdict == api.Allowed {
			continue
		}
		ended++
		o := made(t, c, shuffled(random, l, [2][]byte{})...)
		for range 5 {
			feed(t, o, garbage(random))
			if x := o.Report(); !same(x, want) {
				t.Fatalf("%+v, not %+v", x, want)
			}
		}
		last := len(l) - 1
		x := run(t, c, pieces(l[:last]))
		if x.Verdict != api.Allowed || x.At != last || !slices.Equal(x.Records, want.Records[:last]) || len(x.Faults)+len(x.Rules) > 0 || x.Left != [2]int{} {
			t.Fatalf("%+v", x)
		}
	}
	if ended < 200 {
		t.Error(ended)
	}
}

package roster_test

import (
	"math"
	"math/rand"
	"slices"
	"testing"

	"stickler/api"
	"stickler/life"
	"stickler/roster"
	"stickler/tally"
	"stickler/window"
)

var (
	noSides = []int{math.MinInt, -1, 2, 3, math.MaxInt}
	noIds   = []int{math.MinInt, -2, -1, 0, api.MaxStream + 1, 1 << 32, math.MaxInt}
)

// open is a stream of a number that is open.
func open(id int) roster.Stream {
	return with(id, life.State{Kind: life.Open, Owner: 1 - id%2})
}

func closed(id int) roster.Stream {
	return with(id, life.State{Kind: life.Closed, Owner: 1 - id%2, By: life.Both})
}

func promised(id int) roster.Stream {
	return with(id, life.State{Kind: life.Reserved, Owner: api.Server})
}

func with(id int, state life.State) roster.Stream {
	w, _ := window.Window{}.Give(api.Client, max(id%1000, 0), 5)
	return roster.Stream{Id: id, Life: state, Win: w, Talk: [2]tally.Tally{tally.Asks(), tally.Answers("HEAD")}}
}

func idle(owner int) life.State    { return life.State{Kind: life.Idle, Owner: owner} }
func skipped(owner int) life.State { return life.State{Kind: life.Skipped, Owner: owner} }

func begin(t *testing.T, r *roster.Roster, s roster.Stream, want api.Errno) {
	t.Helper()
	was := r.All()
	if e := r.Begin(s); e != want {
		t.Fatalf("Begin(%+v): %d, want %d", s, e, want)
	}
	if want == api.OK {
		was = append(was, s)
	}
	if !slices.Equal(was, r.All()) {
		t.Fatalf("behind Begin(%+v): %v", s, r.All())
	}
	if got, is := r.Get(s.Id); want == api.OK && (!is || got != s || r.State(s.Id) != s.Life || r.Last(s.Life.Owner) != s.Id) {
		t.Fatalf("Get(%d): %v, %v", s.Id, got, is)
	}
}

func set(t *testing.T, r *roster.Roster, s roster.Stream, want bool) {
	t.Helper()
	all, last := r.All(), [2]int{r.Last(0), r.Last(1)}
	if is := r.Set(s); is != want {
		t.Fatalf("Set(%+v): %v", s, is)
	}
	if want {
		i := slices.IndexFunc(all, func(x roster.Stream) bool { return x.Id == s.Id })
		all[i] = s
	}
	if !slices.Equal(all, r.All()) || last != [2]int{r.Last(0), r.Last(1)} {
		t.Fatalf("behind Set(%+v): %v", s, r.All())
	}
}

func state(t *testing.T, r *roster.Roster, id int, want life.State) {
	t.Helper()
	if s := r.State(id); s != want {
		t.Errorf("State(%d): %+v, want %+v", id, s, want)
	}
}

func TestP341Owner(t *testing.T) {
	for id, owner := range map[int]int{1: 0, 2: 1, 3: 0, 4: 1, 1001: 0, api.MaxStream - 1: 1, api.MaxStream: 0} {
		if o, is := roster.Owner(id); o != owner || !is {
			t.Errorf("Owner(%d): %d, %v", id, o, is)
		}
	}
	for _, id := range noIds {
		if o, is := roster.Owner(id); o != 0 || is {
			t.Errorf("Owner(%d): %d, %v", id, o, is)
		}
	}
}

func TestP342Begin(t *testing.T) {
	r := roster.New(5)
	for _, id := range noIds {
		begin(t, r, roster.Stream{Id: id, Life: life.State{Kind: life.Open}}, api.ErrArg)
		begin(t, r, roster.Stream{Id: id, Life: life.State{Kind: life.Open, Owner: api.Server}}, api.ErrArg)
	}
	begin(t, r, open(5), api.OK)
	for _, id := range []int{1, 3, 5} {
		begin(t, r, open(id), api.ErrArg)
	}
	begin(t, r, promised(2), api.OK) // the owners' numbers rise each by themselves
	begin(t, r, promised(2), api.ErrArg)
	begin(t, r, closed(7), api.OK)
	begin(t, r, open(api.MaxStream-1), api.OK)
	begin(t, r, open(8), api.ErrArg)
	begin(t, r, open(api.MaxStream), api.OK)
	begin(t, r, open(api.MaxStream), api.ErrArg)
	begin(t, r, open(9), api.ErrArg)
}

func TestP342Wrong(t *testing.T) {
	r := roster.New(9)
	begin(t, r, open(3), api.OK)
	begin(t, r, promised(2), api.OK)
	bad := []life.State{
		{}, idle(0), idle(1), skipped(0), skipped(1),
		{Kind: life.Reserved},
		{Kind: life.Open, End: [2]bool{true, true}}, {Kind: life.Open, By: 1}, {Kind: life.Open, Owner: 2}, {Kind: life.Open, Owner: -1},
		{Kind: life.Closed, By: 3}, {Kind: life.Closed, By: -1}, {Kind: life.Closed, Owner: 1, End: [2]bool{true, false}},
		{Kind: 5}, {Kind: -1}, {Kind: 5, Owner: 1},
	}
	for _, s := range bad {
		begin(t, r, with(5, s), api.ErrArg)
		begin(t, r, with(4, s), api.ErrArg)
		set(t, r, with(3, s), false)
		set(t, r, with(2, s), false)
	}
	theirs := life.State{Kind: life.Open, Owner: api.Server}
	begin(t, r, with(5, theirs), api.ErrArg)
	set(t, r, with(3, theirs), false)
	begin(t, r, with(4, life.State{Kind: life.Open}), api.ErrArg)
	set(t, r, with(2, life.State{Kind: life.Open}), false)
	begin(t, r, with(5, life.State{Kind: life.Reserved, Owner: api.Server}), api.ErrArg)
}

func TestP342Full(t *testing.T) {
	for _, most := range []int{math.MinInt, -1, 0, 1, 3} {
		r := roster.New(most)
		for i := range max(most, 0) {
			begin(t, r, open(2*i+1), api.OK)
		}
		begin(t, r, open(101), api.ErrFull)
		begin(t, r, promised(2), api.ErrFull)
		begin(t, r, with(103, idle(0)), api.ErrArg) // what may not be is told first
		begin(t, r, open(0), api.ErrArg)
		state(t, r, 101, idle(0))
		if most > 0 {
			begin(t, r, open(1), api.ErrArg)
			set(t, r, closed(1), true) // a closed one keeps its place
			begin(t, r, open(101), api.ErrFull)
		}
	}
	begin(t, roster.New(math.MaxInt), open(1), api.OK)
}

func TestP342Set(t *testing.T) {
	r := roster.New(9)
	set(t, r, open(1), false)
	begin(t, r, open(1), api.OK)
	begin(t, r, promised(2), api.OK)
	begin(t, r, open(5), api.OK)
	s := open(1)
	s.Life.End = [2]bool{true, false}
	s.Talk[0] = tally.Answers("CONNECT")
	s.Win = window.Window{}
	set(t, r, s, true)
	if got, is := r.Get(1); got != s || !is {
		t.Error("Get:", got, is)
	}
	set(t, r, open(2), true)
	set(t, r, closed(5), true)
	set(t, r, open(5), true)
	set(t, r, promised(2), true)
	for _, id := range append(noIds, 3, 4, 7) {
		set(t, r, open(id), false)
		if got, is := r.Get(id); got != (roster.Stream{}) || is {
			t.Errorf("Get(%d): %v, %v", id, got, is)
		}
	}
}

func TestP343State(t *testing.T) {
	r := roster.New(9)
	check := func(client, server int, there ...roster.Stream) {
		t.Helper()
		for _, id := range noIds {
			state(t, r, id, life.State{})
		}
		for _, id := range []int{1, 2, 3, 4, 5, 6, 7, 8, 9, api.MaxStream - 1, api.MaxStream} {
			owner, last := 1-id%2, []int{client, server}[1-id%2]
			want := idle(owner)
			if id < last {
				want = skipped(owner)
			}
			for _, s := range there {
				if s.Id == id {
					want = s.Life
				}
			}
			state(t, r, id, want)
		}
	}
	check(0, 0)
	begin(t, r, open(5), api.OK)
	check(5, 0, open(5))
	begin(t, r, promised(4), api.OK)
	check(5, 4, open(5), promised(4))
	begin(t, r, open(7), api.OK)
	set(t, r, closed(5), true)
	check(7, 4, closed(5), promised(4), open(7))
	begin(t, r, closed(api.MaxStream), api.OK)
	check(api.MaxStream, 4, closed(5), promised(4), open(7), closed(api.MaxStream))
}

func TestP344Counts(t *testing.T) {
	r := roster.New(9)
	counts := func(lastOfClient, lastOfServer, client, server int) {
		t.Helper()
		if r.Last(0) != lastOfClient || r.Last(1) != lastOfServer || r.Active(0) != client || r.Active(1) != server {
			t.Errorf("Last %d, %d, Active %d, %d", r.Last(0), r.Last(1), r.Active(0), r.Active(1))
		}
		for _, side := range noSides {
			if r.Last(side) != 0 || r.Active(side) != 0 {
				t.Errorf("of %d: %d, %d", side, r.Last(side), r.Active(side))
			}
		}
	}
	counts(0, 0, 0, 0)
	begin(t, r, open(5), api.OK)
	counts(5, 0, 1, 0)
	begin(t, r, promised(2), api.OK)
	counts(5, 2, 1, 0)
	set(t, r, open(2), true)
	counts(5, 2, 1, 1)
	begin(t, r, open(7), api.OK)
	set(t, r, open(7), true)
	counts(7, 2, 2, 1)
	begin(t, r, closed(9), api.OK)
	counts(9, 2, 2, 1)
	set(t, r, closed(5), true)
	set(t, r, closed(5), true)
	counts(9, 2, 1, 1)
	begin(t, r, open(7), api.ErrArg)
	set(t, r, with(7, idle(0)), false)
	set(t, r, open(3), false)
	counts(9, 2, 1, 1)
	set(t, r, closed(2), true)
	set(t, r, closed(7), true)
	counts(9, 2, 0, 0)
}

func TestP344All(t *testing.T) {
	r := roster.New(9)
	if len(r.All()) != 0 {
		t.Error("All:", r.All())
	}
	want := []roster.Stream{open(9), promised(2), open(11), promised(6)}
	for _, s := range want {
		begin(t, r, s, api.OK)
	}
	l := r.All()
	l[0] = open(1)
	if !slices.Equal(r.All(), want) {
		t.Error("All is not new:", r.All())
	}
}

func TestP344Nobody(t *testing.T) {
	var none *roster.Roster
	var bare roster.Roster
	begin(t, none, open(1), api.ErrNil)
	begin(t, none, open(0), api.ErrNil)
	begin(t, &bare, open(1), api.ErrFull)
	begin(t, &bare, open(0), api.ErrArg)
	for _, r := range []*roster.Roster{none, &bare} {
		set(t, r, open(1), false)
		for _, id := range append(noIds, 1, 2, 3) {
			if s, is := r.Get(id); s != (roster.Stream{}) || is {
				t.Errorf("Get(%d): %v, %v", id, s, is)
			}
		}
		for _, id := range noIds {
			state(t, r, id, life.State{})
		}
		state(t, r, 1, idle(0))
		state(t, r, 2, idle(1))
		for _, side := range append(noSides, 0, 1) {
			if r.Last(side) != 0 || r.Active(side) != 0 {
				t.Error("of nobody there is something")
			}
		}
		if len(r.All()) != 0 {
			t.Error("All:", r.All())
		}
	}
}

// lives are all that a stream of an owner may have, and some that it may not.
func anyLife(random *rand.Rand) life.State {
	s := life.State{Kind: random.Intn(6), Owner: random.Intn(2)}
	switch s.Kind {
	case life.Open:
		s.End = [2]bool{random.Intn(2) > 0, random.Intn(2) > 0}
	case life.Closed:
		s.By = random.Intn(4)
	}
	return s
}

func TestP342Random(t *testing.T) {
	random := rand.New(rand.NewSource(34))
	for range 1000 {
		most := random.Intn(8)
		r := roster.New(most)
		var all []roster.Stream
		for range 60 {
			s := with(random.Intn(24)-1, anyLife(random))
			owner, owned := roster.Owner(s.Id)
			may := owned && life.Right(s.Life) && s.Life.Kind >= life.Reserved && s.Life.Owner == owner
			at, last := -1, 0
			for i, x := range all {
				if x.Id == s.Id {
					at = i
				}
				if x.Life.Owner == s.Life.Owner {
					last = x.Id
				}
			}
			if random.Intn(2) > 0 {
				set(t, r, s, may && at >= 0)
				if may && at >= 0 {
					all[at] = s
				}
			} else {
				want := api.OK
				switch {
				case !may || s.Id <= last:
					want = api.ErrArg
				case len(all) == most:
					want = api.ErrFull
				default:
					all = append(all, s)
				}
				begin(t, r, s, want)
			}
			if !slices.Equal(all, r.All()) {
				t.Fatalf("All: %v, want %v", r.All(), all)
			}
			hold(t, r, all)
		}
	}
}

// hold holds what is counted against the streams themselves.
func hold(t *testing.T, r *roster.Roster, all []roster.Stream) {
	t.Helper()
	var last, active [2]int
	for _, s := range all {
		last[s.Life.Owner] = s.Id
		if s.Life.Kind == life.Open {
			active[s.Life.Owner]++
		}
	}
	for side := range 2 {
		if r.Last(side) != last[side] || r.Active(side) != active[side] {
			t.Fatalf("of %d: Last %d, Active %d, where there are %v", side, r.Last(side), r.Active(side), all)
		}
	}
}

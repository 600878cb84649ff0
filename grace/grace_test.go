package grace_test

import (
	"math"
	"math/rand"
	"testing"

	"stickler/grace"
)

func closes(t *testing.T, m *grace.Memory, l ...int) {
	t.Helper()
	for _, id := range l {
		n := m.Len()
		if !m.Close(id) || m.Len() != n+1 {
			t.Fatalf("Close(%d): now %d", id, m.Len())
		}
		if m.Close(id) || m.Len() != n+1 {
			t.Fatalf("Close(%d) again: now %d", id, m.Len())
		}
	}
}

func keep(t *testing.T, m *grace.Memory, id int, want bool) {
	t.Helper()
	n := m.Len()
	if m.Can(id) != want || m.Keep(id) != want || m.Can(id) != want || m.Len() != n {
		t.Fatalf("%d can be kept: %v, want %v", id, m.Can(id), want)
	}
}

func can(t *testing.T, m *grace.Memory, want bool, l ...int) {
	t.Helper()
	for _, id := range l {
		if m.Can(id) != want {
			t.Fatalf("Can(%d): %v", id, m.Can(id))
		}
	}
}

func TestP351Close(t *testing.T) {
	for _, most := range []int{math.MinInt, -1, 0, 1, 64, math.MaxInt} {
		m := grace.New(most)
		if m.Len() != 0 {
			t.Error("Len:", m.Len())
		}
		ids := []int{3, 1, 7, 0, -1, math.MinInt, math.MaxInt, 2}
		can(t, m, false, ids...)
		closes(t, m, ids...)
		can(t, m, most > 0, ids...)
		can(t, m, false, 5, 4, -2)
		keep(t, m, 5, false)
		closes(t, m, 5) // what could not be kept was not closed by that
	}
}

func TestP352One(t *testing.T) {
	m := grace.New(1)
	closes(t, m, 1, 3)
	can(t, m, true, 1, 3)
	keep(t, m, 1, true)
	keep(t, m, 3, false)
	keep(t, m, 1, true)
	closes(t, m, 5)
	can(t, m, true, 1, 5)
	can(t, m, false, 3)
	keep(t, m, 5, true)
	can(t, m, false, 1, 3)
	closes(t, m, 7)
	can(t, m, true, 5, 7)

	other := grace.New(1)
	closes(t, other, 1, 3)
	keep(t, other, 3, true)
	keep(t, other, 1, false)
	can(t, other, true, 3)
}

func TestP352Gone(t *testing.T) {
	m := grace.New(1)
	closes(t, m, 1)
	keep(t, m, 1, true)
	closes(t, m, 3) // 1 may be forgotten just ahead of it
	can(t, m, true, 1, 3)
	keep(t, m, 3, true)
	keep(t, m, 1, false) // and never comes back
	closes(t, m, 5)
	can(t, m, false, 1)
	can(t, m, true, 3, 5)
}

func TestP352Two(t *testing.T) {
	m := grace.New(2)
	closes(t, m, 1, 3, 5)
	can(t, m, true, 1, 3, 5)
	keep(t, m, 1, true) // 1 was there all the time, so that one has room beside it
	can(t, m, true, 3, 5)
	keep(t, m, 5, true)
	keep(t, m, 3, false)
	keep(t, m, 1, true)
	keep(t, m, 5, true)
	closes(t, m, 7)
	can(t, m, true, 1, 5, 7)
	keep(t, m, 7, true)
	can(t, m, true, 1, 5)
	keep(t, m, 1, true)
	keep(t, m, 5, false)
	can(t, m, true, 1, 7)
}

func TestP352None(t *testing.T) {
	for _, m := range []*grace.Memory{grace.New(0), grace.New(-5), {}} {
		closes(t, m, 1, 3)
		keep(t, m, 1, false)
		keep(t, m, 3, false)
		keep(t, m, 9, false)
	}
	var none *grace.Memory
	if none.Close(1) || none.Can(1) || none.Keep(1) || none.Len() != 0 {
		t.Error("of nil there is something")
	}
}

func TestP352Copy(t *testing.T) {
	a, b := grace.New(1), grace.New(1)
	closes(t, a, 1)
	keep(t, a, 1, true)
	can(t, b, false, 1)
	closes(t, b, 3)
	keep(t, b, 3, true)
	can(t, a, true, 1)
}

func TestP353More(t *testing.T) {
	random := rand.New(rand.NewSource(35))
	for range 2000 {
		most := random.Intn(4)
		less, more := grace.New(most), grace.New(most+1+random.Intn(2))
		for range 40 {
			id := random.Intn(12)
			if random.Intn(3) == 0 {
				less.Close(id)
				more.Close(id)
				continue
			}
			if less.Keep(id) && !more.Keep(id) {
				t.Fatalf("who can keep more can't keep %d", id)
			}
		}
	}
}

func TestP352Long(t *testing.T) {
	m := grace.New(3)
	const n = 30000
	for id := range n {
		closes(t, m, id)
		keep(t, m, id, true)
		if id < 3 {
			continue
		}
		can(t, m, true, id-1, id-2, id-3)
		keep(t, m, id-1, true)
		keep(t, m, id-2, true)
		can(t, m, false, id-3)
	}
	if m.Len() != n {
		t.Error(m.Len())
	}
}

// model is all sets that somebody may have had when the last call was made, and all that may come of them.
type model struct {
	most   int
	closed []int
	sets   map[uint]bool
}

func count(set uint) int {
	n := 0
	for ; set > 0; set &= set - 1 {
		n++
	}
	return n
}

func (m *model) forget() {
	next := map[uint]bool{}
	for set := range m.sets {
		for left := set; ; left = (left - 1) & set {
			next[left] = true
			if left == 0 {
				break
			}
		}
	}
	m.sets = next
}

func (m *model) close(id int) {
	m.closed = append(m.closed, id)
	m.forget()
	next := map[uint]bool{}
	for set := range m.sets {
		next[set] = true
		if with := set | 1<<id; count(with) <= m.most {
			next[with] = true
		}
	}
	m.sets = next
}

func (m *model) can(id int) bool {
	for set := range m.sets {
		if set>>id&1 > 0 {
			return true
		}
	}
	return false
}

func (m *model) keep(id int) {
	for set := range m.sets {
		if set>>id&1 == 0 {
			delete(m.sets, set)
		}
	}
	m.forget()
}

func TestP352Random(t *testing.T) {
	random := rand.New(rand.NewSource(352))
	kept, lost := 0, 0
	for range 3000 {
		most := random.Intn(4)
		m := grace.New(most)
		all := model{most: most, sets: map[uint]bool{0: true}}
		ids := random.Perm(8)
		for len(all.closed) < 8 {
			if random.Intn(3) == 0 {
				id := ids[len(all.closed)]
				all.close(id)
				closes(t, m, id)
			} else {
				id := random.Intn(8)
				want := all.can(id)
				keep(t, m, id, want)
				if want {
					all.keep(id)
					kept++
				} else {
					lost++
				}
			}
			for id := range 8 {
				if m.Can(id) != all.can(id) {
					t.Fatalf("Can(%d): %v, most %d, closed %v", id, m.Can(id), most, all.closed)
				}
			}
		}
	}
	if kept < 1000 || lost < 1000 {
		t.Error("kept", kept, "lost", lost)
	}
}

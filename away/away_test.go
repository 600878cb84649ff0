package away_test

import (
	"math"
	"math/rand"
	"testing"

	"stickler/api"
	"stickler/away"
)

const most = api.MaxStream

var numbers = []int{math.MinInt, -most, -1, 0, 1, 2, 5, 7, most - 1, most, most + 1, 1 << 32, math.MaxInt}

func tell(t *testing.T, a away.Away, last int, want bool) away.Away {
	t.Helper()
	was := a
	next, is := a.Tell(last)
	if is != want || !is && next != (away.Away{}) || a != was {
		t.Fatalf("Tell(%d) of %v: %v, %v, and it is %v", last, was, next, is, a)
	}
	if !is {
		return next
	}
	if n, is := next.Last(); n != last || !is {
		t.Fatalf("Last behind %d: %d, %v", last, n, is)
	}
	for _, id := range numbers {
		if next.Beyond(id) != (id > last) {
			t.Fatalf("Beyond(%d) behind %d: %v", id, last, next.Beyond(id))
		}
	}
	return next
}

func TestP371Nothing(t *testing.T) {
	var a away.Away
	if n, is := a.Last(); n != 0 || is {
		t.Error("Last:", n, is)
	}
	for _, id := range numbers {
		if a.Beyond(id) {
			t.Errorf("Beyond(%d)", id)
		}
		tell(t, a, id, id >= 0 && id <= most)
	}
}

func TestP371Tell(t *testing.T) {
	for _, first := range numbers {
		if first < 0 || first > most {
			continue
		}
		a := tell(t, away.Away{}, first, true)
		for _, then := range numbers {
			tell(t, a, then, then >= 0 && then <= first)
		}
	}
	a := tell(t, tell(t, away.Away{}, 7, true), 5, true)
	tell(t, a, 5, true)
	tell(t, a, 6, false)
	tell(t, a, 7, false)
	zero := tell(t, away.Away{}, 0, true)
	tell(t, zero, 1, false)
	tell(t, zero, 0, true)
}

func TestP372Beyond(t *testing.T) {
	random := rand.New(rand.NewSource(37))
	for range 2000 {
		a, least := away.Away{}, most
		beyond := map[int]bool{}
		for range 20 {
			last := random.Intn(40) - 2
			if next, is := a.Tell(last); is {
				a, least = next, last
			} else if last >= 0 && last <= least {
				t.Fatalf("Tell(%d) behind %d", last, least)
			}
			for id := range 40 {
				if beyond[id] && !a.Beyond(id) {
					t.Fatalf("%d was beyond", id)
				}
				beyond[id] = a.Beyond(id)
			}
		}
	}
}

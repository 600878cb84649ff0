package window_test

import (
	"math"
	"math/rand"
	"testing"

	"stickler/api"
	"stickler/window"
)

const most = api.MaxStream

var (
	noSides    = []int{math.MinInt, -1, 2, 3, math.MaxInt}
	initials   = []int{0, 1, 30, 65535, most - 1, most}
	noInitials = []int{math.MinInt, -most, -1, most + 1, 1 << 32, 1 << 52, math.MaxInt}
)

func take(t *testing.T, w window.Window, side, n, initial int, want bool) window.Window {
	t.Helper()
	was := w
	next, is := w.Take(side, n, initial)
	checkStep(t, "Take", was, w, next, side, n, initial, is, want, -n)
	return next
}

func give(t *testing.T, w window.Window, side, n, initial int, want bool) window.Window {
	t.Helper()
	was := w
	next, is := w.Give(side, n, initial)
	checkStep(t, "Give", was, w, next, side, n, initial, is, want, n)
	return next
}

// checkStep: what was asked has not changed, and what is answered has just one room that moved.
func checkStep(t *testing.T, name string, was, w, next window.Window, side, n, initial int, is, want bool, by int) {
	t.Helper()
	if is != want {
		t.Fatalf("%s(%d, %d, %d) of %v: %v", name, side, n, initial, w, is)
	}
	if w != was {
		t.Fatalf("%s(%d, %d, %d) has changed its window", name, side, n, initial)
	}
	if !is && next != (window.Window{}) {
		t.Fatalf("%s(%d, %d, %d): beside false stands %v", name, side, n, initial, next)
	}
	if is && (next.Room(side, initial) != w.Room(side, initial)+by || next.Room(1-side, initial) != w.Room(1-side, initial)) {
		t.Fatalf("%s(%d, %d, %d): rooms %d and %d, were %d and %d", name, side, n, initial,
			next.Room(0, initial), next.Room(1, initial), w.Room(0, initial), w.Room(1, initial))
	}
}

func TestP311Room(t *testing.T) {
	for _, initial := range initials {
		for side := range 2 {
			if n := (window.Window{}).Room(side, initial); n != initial {
				t.Errorf("Room(%d, %d) of nothing: %d", side, initial, n)
			}
		}
	}
	w := take(t, window.Window{}, api.Client, 10, 30, true)
	w = give(t, w, api.Server, 7, 30, true)
	for _, initial := range initials {
		if c, s := w.Room(api.Client, initial), w.Room(api.Server, initial); c != initial-10 || s != initial+7 {
			t.Errorf("Room of %d: %d, %d", initial, c, s)
		}
		for _, side := range noSides {
			if n := w.Room(side, initial); n != 0 {
				t.Errorf("Room(%d, %d): %d", side, initial, n)
			}
		}
	}
	for _, initial := range noInitials {
		for _, side := range append(noSides, 0, 1) {
			if n := w.Room(side, initial); n != 0 {
				t.Errorf("Room(%d, %d): %d", side, initial, n)
			}
		}
	}
}

func TestP311Below(t *testing.T) {
	w := take(t, window.Window{}, api.Server, most, most, true)
	if n := w.Room(api.Server, 0); n != -most {
		t.Error("Room:", n)
	}
	if n := w.Room(api.Client, 0); n != 0 {
		t.Error("Room:", n)
	}
}

func TestP312Take(t *testing.T) {
	for _, initial := range initials {
		for side := range 2 {
			w := window.Window{}
			take(t, w, side, 0, initial, true)
			take(t, w, side, initial, initial, true)
			for _, n := range []int{initial + 1, 1 << 52, 1<<52 + 1, math.MaxInt, -1, -initial - 1, math.MinInt} {
				take(t, w, side, n, initial, false)
			}
		}
	}
	a := take(t, window.Window{}, api.Client, 10, 30, true)
	take(t, a, api.Client, 21, 30, false)
	b := take(t, a, api.Client, 20, 30, true)
	take(t, b, api.Client, 1, 30, false)
	take(t, b, api.Client, 0, 30, true)
	take(t, b, api.Server, 30, 30, true)
	take(t, b, api.Server, 31, 30, false)
	take(t, b, api.Client, 1, 31, true)
	take(t, b, api.Client, 2, 31, false)
	take(t, b, api.Client, 0, 5, true) // the room is below 0: no bytes may be sent even then
	take(t, b, api.Client, 1, 5, false)
}

func TestP312Give(t *testing.T) {
	for _, initial := range initials {
		for side := range 2 {
			w := window.Window{}
			give(t, w, side, 0, initial, true)
			give(t, w, side, most-initial, initial, true)
			for _, n := range []int{most - initial + 1, 1 << 52, 1<<52 + 1, math.MaxInt, -1, math.MinInt} {
				give(t, w, side, n, initial, false)
			}
		}
	}
	full := give(t, window.Window{}, api.Client, most, 0, true)
	give(t, full, api.Client, 1, 0, false)
	give(t, full, api.Client, 0, 0, true)
	give(t, full, api.Client, 0, 1, false) // the room is above all that it may be
	give(t, full, api.Server, most, 0, true)
	take(t, full, api.Client, 2*most, most, true)
	take(t, full, api.Client, 2*most+1, most, false)
	low := take(t, window.Window{}, api.Server, most, most, true)
	give(t, low, api.Server, 2*most, 0, true)
	give(t, low, api.Server, 2*most+1, 0, false)
}

func TestP312Wrong(t *testing.T) {
	w := take(t, window.Window{}, api.Client, 10, 30, true)
	for _, n := range []int{0, 1, -1, math.MinInt, math.MaxInt} {
		for _, side := range noSides {
			for _, initial := range append(initials, noInitials...) {
				isNone(t, w, side, n, initial)
			}
		}
		for side := range 2 {
			for _, initial := range noInitials {
				isNone(t, w, side, n, initial)
			}
		}
	}
}

func isNone(t *testing.T, w window.Window, side, n, initial int) {
	t.Helper()
	if next, is := w.Take(side, n, initial); is || next != (window.Window{}) {
		t.Errorf("Take(%d, %d, %d): %v, %v", side, n, initial, next, is)
	}
	if next, is := w.Give(side, n, initial); is || next != (window.Window{}) {
		t.Errorf("Give(%d, %d, %d): %v, %v", side, n, initial, next, is)
	}
}

func TestP313Initial(t *testing.T) {
	w := take(t, window.Window{}, api.Client, 10, 30, true)
	w = give(t, w, api.Server, 12345, 30, true)
	for _, a := range initials {
		for _, b := range initials {
			for side := range 2 {
				if d := w.Room(side, b) - w.Room(side, a); d != b-a {
					t.Errorf("from %d to %d the room of %d changes by %d", a, b, side, d)
				}
			}
		}
	}
}

func TestP312Random(t *testing.T) {
	random := rand.New(rand.NewSource(31))
	for range 2000 {
		w, moved := window.Window{}, [2]int{}
		for range 50 {
			side, initial := random.Intn(2), initials[random.Intn(len(initials))]
			room := initial + moved[side]
			n := random.Intn(1 << uint(random.Intn(33)))
			if random.Intn(3) == 0 {
				n = room - 1 + random.Intn(3)
			}
			if random.Intn(2) > 0 {
				want := n == 0 || n > 0 && n <= room
				if next := take(t, w, side, n, initial, want); want {
					w, moved[side] = next, moved[side]-n
				}
			} else {
				want := n >= 0 && room+n <= most
				if next := give(t, w, side, n, initial, want); want {
					w, moved[side] = next, moved[side]+n
				}
			}
			for s := range 2 {
				if got := w.Room(s, initial); got != initial+moved[s] {
					t.Fatalf("Room(%d, %d): %d, want %d", s, initial, got, initial+moved[s])
				}
			}
		}
	}
}

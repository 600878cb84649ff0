package pair_test

import (
	"math"
	"testing"

	"stickler/api"
	"stickler/pair"
)

const most = api.MaxPart

var (
	amounts = []int{-most, -most + 1, -65535, -3, -1, 0, 1, 2, 65535, most - 1, most}
	beyond  = []int{math.MinInt, -1 << 53, -most - 1, most + 1, 1<<53 + 1, 1 << 53, math.MaxInt}
	// parts are what no amount is.
	parts = []float64{0.5, -0.5, 1e-300, 65535.25, most - 0.5, -most + 0.5, most + 1, -most - 1, 1 << 60, 1e300, math.Inf(1), math.Inf(-1), math.NaN()}
	sides = []int{math.MinInt, -1, 2, 3, math.MaxInt}
)

// noPairs are complex numbers that are none.
func noPairs() []complex128 {
	var l []complex128
	for _, x := range parts {
		l = append(l, complex(x, 0), complex(1, x), complex(x, x))
	}
	return l
}

func of(client, server int) complex128 { return complex(float64(client), float64(server)) }

func TestP61OfSide(t *testing.T) {
	for _, a := range amounts {
		for _, b := range amounts {
			c, e := pair.Of(a, b)
			if e != api.OK || c != of(a, b) {
				t.Fatalf("Of(%d, %d): %v, %d", a, b, c, e)
			}
			if n, e := pair.Side(c, api.Client); n != a || e != api.OK {
				t.Errorf("client of %v: %d, %d", c, n, e)
			}
			if n, e := pair.Side(c, api.Server); n != b || e != api.OK {
				t.Errorf("server of %v: %d, %d", c, n, e)
			}
		}
		for _, b := range beyond {
			if c, e := pair.Of(a, b); c != 0 || e != api.ErrRange {
				t.Errorf("Of(%d, %d): %v, %d", a, b, c, e)
			}
			if c, e := pair.Of(b, a); c != 0 || e != api.ErrRange {
				t.Errorf("Of(%d, %d): %v, %d", b, a, c, e)
			}
			if c, e := pair.Of(b, b); c != 0 || e != api.ErrRange {
				t.Errorf("Of(%d, %d): %v, %d", b, b, c, e)
			}
		}
	}
}

func TestP61SideWrong(t *testing.T) {
	for _, c := range noPairs() {
		for side := range 2 {
			if n, e := pair.Side(c, side); n != 0 || e != api.ErrForm {
				t.Errorf("Side(%v, %d): %d, %d", c, side, n, e)
			}
		}
		for _, side := range sides {
			if n, e := pair.Side(c, side); n != 0 || e != api.ErrArg {
				t.Errorf("Side(%v, %d): %d, %d", c, side, n, e)
			}
		}
	}
	for _, side := range sides {
		if n, e := pair.Side(of(5, -2), side); n != 0 || e != api.ErrArg {
			t.Errorf("Side of %d: %d, %d", side, n, e)
		}
	}
	if n, e := pair.Side(complex(math.Copysign(0, -1), 3), api.Client); n != 0 || e != api.OK {
		t.Error(n, e)
	}
}

func TestP62Move(t *testing.T) {
	c, e := pair.Move(of(5, -2), api.Server, 3)
	if e != api.OK || c != of(5, 1) {
		t.Error(c, e)
	}
	for _, a := range amounts {
		for _, n := range amounts {
			sum := a + n
			in := -most <= sum && sum <= most
			for side := range 2 {
				from, want := of(a, 7), of(sum, 7)
				if side == api.Server {
					from, want = of(7, a), of(7, sum)
				}
				c, e := pair.Move(from, side, n)
				if in && (e != api.OK || c != want) || !in && (e != api.ErrRange || c != 0) {
					t.Errorf("Move(%v, %d, %d): %v, %d", from, side, n, c, e)
				}
			}
		}
	}
}

func TestP62MoveWrong(t *testing.T) {
	for _, n := range append([]int{1}, beyond...) {
		for _, c := range noPairs() {
			if d, e := pair.Move(c, api.Client, n); d != 0 || e != api.ErrForm {
				t.Errorf("Move(%v, %d): %v, %d", c, n, d, e)
			}
			if d, e := pair.Move(c, 2, n); d != 0 || e != api.ErrArg {
				t.Errorf("Move(%v, side 2, %d): %v, %d", c, n, d, e)
			}
		}
		for _, side := range sides {
			if d, e := pair.Move(of(1, 2), side, n); d != 0 || e != api.ErrArg {
				t.Errorf("Move of side %d: %v, %d", side, d, e)
			}
		}
	}
	for _, n := range beyond {
		for side := range 2 {
			if d, e := pair.Move(of(-1, 1), side, n); d != 0 || e != api.ErrRange {
				t.Errorf("Move by %d: %v, %d", n, d, e)
			}
		}
	}
	// A number that is no amount stays one, even where the sum would be one.
	if d, e := pair.Move(of(-most, 0), api.Client, most+1); d != 0 || e != api.ErrRange {
		t.Error(d, e)
	}
	if d, e := pair.Move(of(0, most), api.Server, -most-1); d != 0 || e != api.ErrRange {
		t.Error(d, e)
	}
}

func TestP63Swap(t *testing.T) {
	for _, a := range amounts {
		for _, b := range amounts {
			if c, e := pair.Swap(of(a, b)); e != api.OK || c != of(b, a) {
				t.Errorf("Swap(%d, %d): %v, %d", a, b, c, e)
			}
		}
	}
	for _, c := range noPairs() {
		if d, e := pair.Swap(c); d != 0 || e != api.ErrForm {
			t.Errorf("Swap(%v): %v, %d", c, d, e)
		}
	}
	// A nought below nought is the amount 0, too.
	below := math.Copysign(0, -1)
	for _, c := range []complex128{complex(below, -5), complex(-5, below), complex(below, 5), complex(5, below), complex(below, below)} {
		d, e := pair.Swap(c)
		if e != api.OK || d != complex(imag(c), real(c)) {
			t.Errorf("Swap(%v): %v, %d", c, d, e)
		}
	}
}

func TestP63Total(t *testing.T) {
	bad := complex(0.5, 0)
	for _, c := range []struct {
		l   []complex128
		sum complex128
		e   api.Errno
	}{
		{nil, 0, api.OK},
		{[]complex128{}, 0, api.OK},
		{[]complex128{of(3, -4)}, of(3, -4), api.OK},
		{[]complex128{of(1, 2), of(3, 4), of(-10, 100)}, of(-6, 106), api.OK},
		{[]complex128{of(most, -most), of(0, 0)}, of(most, -most), api.OK},
		{[]complex128{of(most-1, 0), of(1, 0)}, of(most, 0), api.OK},
		{[]complex128{of(most, 0), of(1, 0)}, 0, api.ErrRange},
		{[]complex128{of(0, most), of(0, 1)}, 0, api.ErrRange},
		{[]complex128{of(0, -most), of(0, -1)}, 0, api.ErrRange},
		{[]complex128{of(-most, 0), of(-1, 0)}, 0, api.ErrRange},
		{[]complex128{of(most, 0), of(1, 0), of(-1, 0)}, 0, api.ErrRange},
		{[]complex128{of(most, 0), of(-1, 0), of(1, 0)}, of(most, 0), api.OK},
		{[]complex128{bad}, 0, api.ErrForm},
		{[]complex128{of(1, 2), bad}, 0, api.ErrForm},
		{[]complex128{bad, -bad}, 0, api.ErrForm},
		{[]complex128{of(most, 0), of(1, 0), bad}, 0, api.ErrRange},
		{[]complex128{of(most, 0), bad, of(1, 0)}, 0, api.ErrForm},
		{[]complex128{of(most, 0), complex(1, 0.5)}, 0, api.ErrForm},
		{[]complex128{of(most, 0), of(most, 0), complex(math.Inf(1), 0)}, 0, api.ErrRange},
	} {
		if sum, e := pair.Total(c.l...); e != c.e || sum != c.sum {
			t.Errorf("Total(%v): %v, %d", c.l, sum, e)
		}
	}
	for _, c := range noPairs() {
		if sum, e := pair.Total(of(1, 1), c); sum != 0 || e != api.ErrForm {
			t.Errorf("Total(%v): %v, %d", c, sum, e)
		}
	}
}

func TestP2LeavesIt(t *testing.T) {
	l := []complex128{of(1, 2), of(3, 4)}
	one, _ := pair.Total(l...)
	two, _ := pair.Total(l...)
	if one != two || l[0] != of(1, 2) || l[1] != of(3, 4) {
		t.Error(one, two, l)
	}
}

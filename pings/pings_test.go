package pings_test

import (
	"bytes"
	"math"
	"math/rand"
	"testing"

	"stickler/api"
	"stickler/pings"
)

var wrong = [][]byte{nil, {}, {1}, {1, 2, 3, 4, 5, 6, 7}, {1, 2, 3, 4, 5, 6, 7, 8, 9}, make([]byte, 16), make([]byte, 1000)}

func of(b byte) []byte { return []byte{b, 2, 3, 4, 5, 6, 7, 8} }

func send(t *testing.T, p *pings.Pings, b []byte, want api.Errno) {
	t.Helper()
	was, n := bytes.Clone(b), p.Len()
	if e := p.Send(b); e != want || !bytes.Equal(was, b) {
		t.Fatalf("Send(%v): %d, want %d; now %v", was, e, want, b)
	}
	if want == api.OK {
		n++
	}
	if p.Len() != n || want == api.OK && !p.Waits(b) {
		t.Fatalf("behind Send(%v) %d wait, it: %v", b, p.Len(), p.Waits(b))
	}
}

func answer(t *testing.T, p *pings.Pings, b []byte, want bool) {
	t.Helper()
	was, n := bytes.Clone(b), p.Len()
	if w := p.Waits(b); w != want || p.Len() != n {
		t.Fatalf("Waits(%v): %v", b, w)
	}
	if a := p.Answer(b); a != want || !bytes.Equal(was, b) {
		t.Fatalf("Answer(%v): %v; now %v", was, a, b)
	}
	if want {
		n--
	}
	if p.Len() != n {
		t.Fatalf("behind Answer(%v) %d wait", b, p.Len())
	}
}

func TestP361Send(t *testing.T) {
	p := pings.New(3)
	for _, b := range wrong {
		send(t, p, b, api.ErrArg)
		answer(t, p, b, false)
	}
	answer(t, p, of(1), false)
	send(t, p, of(1), api.OK)
	send(t, p, of(1), api.OK)
	send(t, p, of(2), api.OK)
	send(t, p, of(2), api.ErrFull)
	send(t, p, of(3), api.ErrFull)
	for _, b := range wrong {
		send(t, p, b, api.ErrArg)
		answer(t, p, b, false)
	}
	answer(t, p, of(3), false)
	answer(t, p, of(1), true)
	send(t, p, of(3), api.OK)
	send(t, p, of(3), api.ErrFull)
	answer(t, p, of(1), true)
	answer(t, p, of(1), false)
	answer(t, p, of(3), true)
	answer(t, p, of(2), true)
	answer(t, p, of(2), false)
	if p.Len() != 0 {
		t.Error(p.Len(), "wait")
	}
}

func TestP361Bytes(t *testing.T) {
	p := pings.New(5)
	b := of(1)
	send(t, p, b, api.OK)
	b[0] = 9 // what waits is a copy
	answer(t, p, b, false)
	for i := range 8 {
		other := of(1)
		other[i]++
		answer(t, p, other, false)
	}
	answer(t, p, of(1), true)
	send(t, p, make([]byte, 8), api.OK)
	answer(t, p, make([]byte, 7), false)
	answer(t, p, make([]byte, 9), false)
	answer(t, p, make([]byte, 8), true)
}

func TestP361Room(t *testing.T) {
	for _, most := range []int{math.MinInt, -1, 0} {
		p := pings.New(most)
		send(t, p, of(1), api.ErrFull)
		send(t, p, nil, api.ErrArg)
		answer(t, p, of(1), false)
	}
	one := pings.New(1)
	send(t, one, of(1), api.OK)
	send(t, one, of(1), api.ErrFull)
	answer(t, one, of(1), true)
	send(t, one, of(2), api.OK)
	great := pings.New(math.MaxInt)
	for i := range 1000 {
		send(t, great, of(byte(i)), api.OK)
	}
}

func TestP361Nobody(t *testing.T) {
	var none *pings.Pings
	for _, b := range append(wrong, of(1)) {
		send(t, none, b, api.ErrNil)
		answer(t, none, b, false)
	}
	var bare pings.Pings
	send(t, &bare, of(1), api.ErrFull)
	send(t, &bare, wrong[3], api.ErrArg)
	answer(t, &bare, of(1), false)
	if none.Len() != 0 || bare.Len() != 0 || pings.New(5).Len() != 0 {
		t.Error("where nothing was sent something waits")
	}
}

func TestP362Random(t *testing.T) {
	random := rand.New(rand.NewSource(36))
	for range 1000 {
		most := random.Intn(6)
		p := pings.New(most)
		var waits []byte
		for range 60 {
			b := byte(random.Intn(4))
			if random.Intn(2) > 0 {
				want := api.OK
				if len(waits) == most {
					want = api.ErrFull
				} else {
					waits = append(waits, b)
				}
				send(t, p, of(b), want)
			} else {
				i := bytes.IndexByte(waits, b)
				answer(t, p, of(b), i >= 0)
				if i >= 0 {
					waits = append(waits[:i], waits[i+1:]...)
				}
			}
			for b := range byte(4) {
				if p.Waits(of(b)) != (bytes.IndexByte(waits, b) >= 0) {
					t.Fatalf("Waits(%d) where there are %v", b, waits)
				}
			}
		}
	}
}

package core_test

import (
	"math"
	"math/rand"
	"testing"

	"stickler/api"
	"stickler/core"
	"stickler/life"
	"stickler/rules"
)

// oddly is a frame, or something like one, of whatever bytes.
func oddly(random *rand.Rand) api.Raw {
	of := func(l ...int) int { return l[random.Intn(len(l))] }
	r := api.Raw{From: of(0, 0, 0, 1, 1, 1, 2, -1), Type: random.Intn(11), Flags: of(0, 0, 1, 4, 5, 8, 32, 255), Stream: of(0, 0, 1, 1, 2, 3, top), Res: random.Intn(2) == 0}
	if random.Intn(20) == 0 {
		r.Type, r.Stream = of(-1, -2, 256, math.MinInt), of(-1, top+1, math.MaxInt)
	}
	r.Body = make([]byte, of(0, 0, 1, 4, 5, 6, 8, 12, 30))
	for i := range r.Body {
		r.Body[i] = byte(of(0, 0, 0, 1, 2, 64, 127, 130, 132, 134, 136, 255))
	}
	return r
}

func TestP393Any(t *testing.T) {
	random := rand.New(rand.NewSource(393))
	numbers := []int{math.MinInt, -1, 0, 1, 5, 16384, 65535, top, 1 << 31, math.MaxInt}
	of := func() int { return numbers[random.Intn(len(numbers))] }
	for range 3000 {
		k := made(t, conf(), list(both(), get(1, 0))...)
		for range 30 {
			r := oddly(random)
			if e := k.Look(r); e == api.ErrOver {
				break
			} else if e != api.OK {
				continue
			}
			k.Late()
			odd := api.Values{Table: of(), Push: of(), Streams: of(), Window: of(), Frame: of(), List: of()}
			for _, v := range []api.Values{newest(k, r), odd} {
				answer, rule := k.Ask(v, random.Intn(2) == 0)
				if answer < life.Pass || answer > life.Break || (answer == life.Break) != (rules.Name(rule) != "") {
					t.Fatalf("%+v: %d, %d", r, answer, rule)
				}
				if answer == life.Break && len(rules.Faults(rule, r)) == 0 {
					t.Fatalf("%+v breaks %s, and nothing tells it", r, rules.Name(rule))
				}
			}
			if _, e := k.Do(life.Pass); e == api.ErrNone {
				k.Do(life.Ignore)
			}
		}
	}
}

func TestP391Alone(t *testing.T) {
	a, _ := core.New(conf())
	b, _ := core.New(conf())
	done(t, a, 0, sets(server, api.SetFrame, 20000))
	if b.Sent(server).Sent() != 0 {
		t.Error("two connections share what was sent")
	}
	asked(t, b, ping(server, 1), true, life.Break, api.RuleFirst)
}

package play_test

import (
	"bytes"
	"math/rand"
	"slices"
	"testing"

	"stickler/api"
	"stickler/driver"
	"stickler/inject"
	"stickler/match"
	"stickler/monitor"
	"stickler/peer"
	"stickler/play"
	"stickler/spec"
)

// last is what the last of some frames comes to, judged from the first one on.
func last(c api.Config, l []api.Raw) api.Outcome {
	m, _ := monitor.New(c)
	var o api.Outcome
	for _, r := range l {
		o, _ = m.Step(r)
	}
	return o
}

func mayBe(o api.Outcome) bool { return o.Kind == api.Allowed || o.Kind == api.Ignored }

// model plays a scenario by the document's words, and judges all anew with each frame.
func model(c api.Config, s spec.Scenario, choices []int) play.Result {
	var r play.Result
	other := 1 - s.Side
	pick := func() int {
		n := 1
		if len(choices) > 0 {
			n, choices = choices[0], choices[1:]
		}
		return n
	}
	turn := func() bool {
		for _, x := range peer.Turn(other, r.Frames, pick()) {
			r.Frames = append(r.Frames, x)
			if !mayBe(last(c, r.Frames)) {
				r.Verdict, r.At = match.Broken, len(r.Frames)-1
				return false
			}
		}
		return true
	}
	sends := func(l []api.Raw) bool {
		if !driver.Allowed(c, r.Frames, l) {
			return false
		}
		r.Frames = append(r.Frames, l...)
		return true
	}
	if s.Side == client {
		sends(driver.Open(client))
		turn()
	} else {
		turn()
		sends(driver.Open(server))
	}
	for i, x := range s.Steps {
		n := x.N
		if x.Kind != spec.Wait {
			n = 1
			if !sends(driver.Frames(s.Side, x)) {
				r.Skipped = append(r.Skipped, i)
			}
		}
		for ; n > 0; n-- {
			if !turn() {
				return r
			}
			sends(driver.Duties(s.Side, r.Frames))
		}
	}
	l, _ := inject.Frames(s.Wrong, s.Side)
	for _, x := range l {
		r.Frames = append(r.Frames, x)
		o := last(c, r.Frames)
		if o.Kind == api.Rejected {
			r.At, r.Faults = len(r.Frames)-1, o.Faults
			told := peer.React(other, s.Wrong.Stream, pick())
			r.Frames = append(r.Frames, told...)
			r.Got, r.Told = match.Reaction(told, other, s.Wrong.Stream)
			r.Verdict = match.Judge(o.Faults, r.Got, r.Told)
			return r
		}
		if o.Kind == api.Limited {
			break
		}
	}
	r.Verdict, r.At = match.Void, len(r.Frames)
	return r
}

func someStep(random *rand.Rand) spec.Step {
	of := func(l ...int) int { return l[random.Intn(len(l))] }
	stream, end := of(1, 1, 3, 3, 5, 2), random.Intn(2) == 0
	switch random.Intn(9) {
	case 0, 1:
		return get(stream, end)
	case 2:
		return spec.Step{Kind: spec.Headers, Stream: stream, End: end, Fields: []api.Field{{Name: ":status", Value: "200"}}}
	case 3:
		return spec.Step{Kind: spec.Data, Stream: stream, N: of(0, 1, 5, 100, 16384), End: end}
	case 4:
		return spec.Step{Kind: spec.Set, Settings: []api.Setting{{Id: of(1, 2, 3, 4, 5, 6, 7), Value: of(0, 1, 100, 16384)}}}
	case 5:
		return spec.Step{Kind: spec.Grow, Stream: of(0, 1, 3), N: of(1, 100, 1<<31-1)}
	case 6:
		return spec.Step{Kind: spec.Cut, Stream: stream, N: of(0, 8, 1<<32-1)}
	case 7:
		return []spec.Step{{Kind: spec.Call, N: of(0, 9, 255)}, {Kind: spec.Leave, N: of(0, 1, 3, 1<<31-1)}}[random.Intn(2)]
	}
	return wait(of(0, 1, 2, 4))
}

// some is a scenario, and choices of which few are wrong.
func some(random *rand.Rand) (spec.Scenario, []int) {
	s := spec.New(random.Intn(2))
	for range random.Intn(9) {
		s = s.With(someStep(random))
	}
	var choices []int
	for range random.Intn(40) {
		n := random.Intn(9)
		if random.Intn(100) == 0 {
			n = 9
		}
		if random.Intn(2) == 0 { // so that codes of all numbers are told
			n += 10 * random.Intn(14)
		}
		choices = append(choices, n)
	}
	return s.Ending(spec.Wrong{Kind: 1 + random.Intn(spec.Wrongs), Stream: []int{1, 3, 2, 7}[random.Intn(4)]}), choices
}

func configs() []api.Config {
	return []api.Config{conf(), {Streams: 1, Queue: 1, Table: 4096}, {Grace: 1, Streams: 3, Block: 30, Queue: 2, Pings: 1, Table: 4096}, {Grace: 2, Streams: 30, Block: 10000, Queue: 32, Pings: 64, Table: 8000}}
}

func TestP50AsModel(t *testing.T) {
	random := rand.New(rand.NewSource(50))
	verdicts := map[int]int{}
	for range 3000 {
		s, choices := some(random)
		c := configs()[random.Intn(len(configs()))]
		r := run(t, c, s, choices...)
		if want := model(c, s, choices); !sameResult(r, want) {
			t.Fatalf("%+v, %v: %+v\nwant %+v", s, choices, r, want)
		}
		verdicts[r.Verdict]++
	}
	for verdict := match.Passed; verdict <= match.Broken; verdict++ {
		if verdicts[verdict] < 50 {
			t.Error("too few:", verdicts)
		}
	}
}

// ahead are the frames of both sides ahead of what is wrong.
func ahead(r play.Result, s spec.Scenario) []api.Raw {
	wrong, _ := inject.Frames(s.Wrong, s.Side)
	switch r.Verdict {
	case match.Broken:
		return r.Frames[:r.At]
	case match.Void: // it may have ended ahead of the last one
		for n := len(wrong); n > 0; n-- {
			if l := r.Frames[:r.At-n]; same(r.Frames[r.At-n:], wrong[:n]) {
				return l
			}
		}
	}
	return r.Frames[:r.At+1-len(wrong)]
}

// TestP50WhatFollows: the driver keeps all rules ahead of what is wrong, and is passed just if that is told as it may be.
func TestP50WhatFollows(t *testing.T) {
	random := rand.New(rand.NewSource(504))
	for range 3000 {
		s, choices := some(random)
		c := configs()[random.Intn(len(configs()))]
		r := run(t, c, s, choices...)
		if ahead := ahead(r, s); !driver.Allowed(c, ahead, nil) {
			t.Fatal("not allowed:", s, choices, r)
		}
		o := last(c, r.Frames[:min(r.At+1, len(r.Frames))])
		passed := r.Verdict != match.Broken && o.Kind == api.Rejected && r.Told && slices.Contains(o.Faults, r.Got)
		if passed != (r.Verdict == match.Passed) {
			t.Fatal("passed:", s, choices, r)
		}
		if r.Verdict == match.Broken && (r.Frames[r.At].From == s.Side || mayBe(o) || len(r.Frames) != r.At+1) {
			t.Fatal("broken:", s, choices, r)
		}
		if r.Verdict == match.Void && (o.Kind == api.Rejected || r.At != len(r.Frames)) {
			t.Fatal("void:", s, choices, r)
		}
	}
}

// TestP50Memory: what is handed in isn't changed, and what is answered is new.
func TestP50Memory(t *testing.T) {
	random := rand.New(rand.NewSource(505))
	for range 300 {
		s, choices := some(random)
		before, had := s.Ending(s.Wrong), slices.Clone(choices)
		first := run(t, conf(), s, choices...)
		copied := first
		copied.Frames, copied.Skipped, copied.Faults = slices.Clone(first.Frames), slices.Clone(first.Skipped), slices.Clone(first.Faults)
		for i := range copied.Frames {
			copied.Frames[i].Body = bytes.Clone(first.Frames[i].Body)
		}
		for i := range first.Frames {
			clear(first.Frames[i].Body)
			if !same(first.Frames[i+1:], copied.Frames[i+1:]) {
				t.Fatal("two bodies are one:", s, choices)
			}
		}
		clear(first.Frames)
		clear(first.Skipped)
		clear(first.Faults)
		if !spec.Same(s, before) || !slices.Equal(choices, had) {
			t.Fatal("changed:", s, choices)
		}
		if again := run(t, conf(), s, choices...); !sameResult(again, copied) {
			t.Fatal("not the same again:", s, choices)
		}
	}
}

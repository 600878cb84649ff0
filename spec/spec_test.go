package spec_test

import (
	"math"
	"slices"
	"strings"
	"testing"

	"stickler/api"
	"stickler/spec"
)

const most = 1<<31 - 1

func long(n int) string { return strings.Repeat("x", n) }

func fields(n int) []api.Field { return make([]api.Field, n) }

func settings(n int) []api.Setting { return make([]api.Setting, n) }

// right are steps of each kind, at the edges of what may be.
func right() []spec.Step {
	full := []api.Field{{Name: long(200), Value: long(200), Never: true}, {Name: "\x00\xff", Value: "A B\n"}}
	return []spec.Step{
		{Kind: spec.Headers, Stream: 1},
		{Kind: spec.Headers, Stream: most, End: true, Fields: full},
		{Kind: spec.Headers, Stream: 2, Fields: fields(20)},
		{Kind: spec.Data, Stream: 1},
		{Kind: spec.Data, Stream: most, N: 16384, End: true},
		{Kind: spec.Set},
		{Kind: spec.Set, Settings: []api.Setting{{}, {Id: 65535, Value: 1<<32 - 1}}},
		{Kind: spec.Set, Settings: settings(10)},
		{Kind: spec.Grow, N: 1},
		{Kind: spec.Grow, Stream: most, N: most},
		{Kind: spec.Cut, Stream: 1},
		{Kind: spec.Cut, Stream: most, N: 1<<32 - 1},
		{Kind: spec.Call},
		{Kind: spec.Call, N: 255},
		{Kind: spec.Leave},
		{Kind: spec.Leave, N: most},
		{Kind: spec.Wait},
		{Kind: spec.Wait, N: 16},
	}
}

// past are steps that are one past an edge, or have what their kind has no word about.
func past() []spec.Step {
	l := []spec.Step{
		{Kind: spec.Headers}, {Kind: spec.Headers, Stream: -1}, {Kind: spec.Headers, Stream: most + 1},
		{Kind: spec.Headers, Stream: 1, Fields: fields(21)},
		{Kind: spec.Headers, Stream: 1, Fields: []api.Field{{Name: long(201)}}},
		{Kind: spec.Headers, Stream: 1, Fields: []api.Field{{}, {Value: long(201)}}},
		{Kind: spec.Data}, {Kind: spec.Data, Stream: most + 1}, {Kind: spec.Data, Stream: 1, N: -1}, {Kind: spec.Data, Stream: 1, N: 16385},
		{Kind: spec.Set, Settings: settings(11)},
		{Kind: spec.Set, Settings: []api.Setting{{Id: 65536}}}, {Kind: spec.Set, Settings: []api.Setting{{Id: -1}}},
		{Kind: spec.Set, Settings: []api.Setting{{}, {Value: 1 << 32}}}, {Kind: spec.Set, Settings: []api.Setting{{Value: -1}}},
		{Kind: spec.Grow}, {Kind: spec.Grow, N: -1}, {Kind: spec.Grow, N: most + 1}, {Kind: spec.Grow, Stream: -1, N: 1}, {Kind: spec.Grow, Stream: most + 1, N: 1},
		{Kind: spec.Cut}, {Kind: spec.Cut, Stream: most + 1}, {Kind: spec.Cut, Stream: 1, N: -1}, {Kind: spec.Cut, Stream: 1, N: 1 << 32},
		{Kind: spec.Call, N: -1}, {Kind: spec.Call, N: 256},
		{Kind: spec.Leave, N: -1}, {Kind: spec.Leave, N: most + 1},
		{Kind: spec.Wait, N: -1}, {Kind: spec.Wait, N: 17}, {Kind: spec.Wait, N: math.MaxInt},
		{}, {Kind: -1}, {Kind: 9}, {Kind: 9, Stream: 1, N: 1}, {Kind: math.MinInt}, {Kind: math.MaxInt},
	}
	return append(l, unnamed()...)
}

// unnamed are right steps, each with one thing more that its kind has no word about.
func unnamed() []spec.Step {
	named := [...]string{spec.Headers: "stream end fields", spec.Data: "stream n end", spec.Set: "settings", spec.Grow: "stream n", spec.Cut: "stream n", spec.Call: "n", spec.Leave: "n", spec.Wait: "n"}
	with := map[string]func(*spec.Step){
		"stream":   func(s *spec.Step) { s.Stream = 1 },
		"n":        func(s *spec.Step) { s.N = 1 },
		"end":      func(s *spec.Step) { s.End = true },
		"fields":   func(s *spec.Step) { s.Fields = fields(1) },
		"settings": func(s *spec.Step) { s.Settings = settings(1) },
	}
	var l []spec.Step
	for _, s := range right() {
		for name, add := range with {
			if !slices.Contains(strings.Fields(named[s.Kind]), name) {
				x := s
				add(&x)
				l = append(l, x)
			}
		}
	}
	return l
}

func TestP45RightStep(t *testing.T) {
	for _, s := range right() {
		if !spec.RightStep(s) {
			t.Error("not right:", s)
		}
		empty := s
		if empty.Fields == nil {
			empty.Fields = []api.Field{}
		}
		if empty.Settings == nil {
			empty.Settings = []api.Setting{}
		}
		if !spec.RightStep(empty) {
			t.Error("not right with empty lists:", s)
		}
	}
	for _, s := range past() {
		if spec.RightStep(s) {
			t.Error("right:", s)
		}
	}
}

func of(l ...spec.Step) spec.Scenario {
	return spec.Scenario{Steps: l, Wrong: spec.Wrong{Kind: 1, Stream: 1}}
}

func waits(l ...int) spec.Scenario {
	s := of()
	for _, n := range l {
		s.Steps = append(s.Steps, spec.Step{Kind: spec.Wait, N: n})
	}
	return s
}

func TestP45Right(t *testing.T) {
	many := slices.Repeat([]spec.Step{{Kind: spec.Call, N: 255}}, 20)
	good := []spec.Scenario{of(), of(right()...), of(many...), waits(16, 16, 8), waits(16, 16, 8, 0), {Side: 1, Wrong: spec.Wrong{Kind: 26, Stream: most}}, {Wrong: spec.Wrong{Kind: spec.Wrongs, Stream: 2}}}
	for _, s := range good {
		if !spec.Right(s) {
			t.Error("not right:", s)
		}
	}
	bad := []spec.Scenario{{}, of(append(many, spec.Step{Kind: spec.Call})...), waits(16, 16, 9), waits(16, 16, 1, 8), waits(17), waits(-1),
		{Side: -1, Wrong: of().Wrong}, {Side: 2, Wrong: of().Wrong}, {Side: math.MaxInt, Wrong: of().Wrong},
		{Wrong: spec.Wrong{Stream: 1}}, {Wrong: spec.Wrong{Kind: 27, Stream: 1}}, {Wrong: spec.Wrong{Kind: -1, Stream: 1}},
		{Wrong: spec.Wrong{Kind: 1}}, {Wrong: spec.Wrong{Kind: 1, Stream: -1}}, {Wrong: spec.Wrong{Kind: 1, Stream: most + 1}}}
	for _, x := range past() {
		bad = append(bad, of(x), of(spec.Step{Kind: spec.Call}, x), of(x, spec.Step{Kind: spec.Call}))
	}
	for _, s := range bad {
		if spec.Right(s) {
			t.Error("right:", s)
		}
	}
	// The N of other kinds don't count.
	if s := of(spec.Step{Kind: spec.Call, N: 200}, spec.Step{Kind: spec.Wait, N: 16}); !spec.Right(s) {
		t.Error("not right:", s)
	}
}

func TestP45Building(t *testing.T) {
	for _, side := range []int{0, 1, 2, -1, math.MaxInt} {
		if s := spec.New(side); s.Side != side || len(s.Steps) != 0 || s.Wrong != (spec.Wrong{Kind: 1, Stream: 1}) {
			t.Error(s)
		}
	}
	x, y := right()[1], right()[6]
	s := spec.New(0).With(x).With(y)
	if len(s.Steps) != 2 || !spec.Same(s, of(x, y)) {
		t.Error(s)
	}
	w := spec.Wrong{Kind: -7, Stream: 1 << 40}
	u := s.Ending(w)
	if want := (spec.Scenario{Steps: []spec.Step{x, y}, Wrong: w}); !spec.Same(u, want) || !spec.Same(s, of(x, y)) {
		t.Error(u, s)
	}
	if v := u.With(spec.Step{Kind: 77}); v.Wrong != w || len(v.Steps) != 3 || v.Steps[2].Kind != 77 || len(u.Steps) != 2 {
		t.Error(v, u)
	}
}

// TestP45Memory: neither what was handed in nor s hangs on what is answered.
func TestP45Memory(t *testing.T) {
	x := spec.Step{Kind: spec.Headers, Stream: 1, Fields: []api.Field{{Name: "a"}}}
	y := spec.Step{Kind: spec.Set, Settings: []api.Setting{{Id: 1, Value: 2}}}
	base := spec.New(1).With(x).With(y)
	before := spec.New(1).With(x).With(y)
	spoil := func(s spec.Scenario) {
		s.Steps[0].Kind, s.Steps[0].Fields[0].Name, s.Steps[1].Settings[0].Value = 7, "spoilt", 9
	}
	one, two, three := base.With(x), base.With(y), base.Ending(spec.Wrong{Kind: 3, Stream: 3})
	if one.Steps[2].Kind != spec.Headers || two.Steps[2].Kind != spec.Set {
		t.Error("one list for two scenarios:", one, two)
	}
	one.Steps[2].Fields[0].Name, two.Steps[2].Settings[0].Id = "spoilt", 9
	spoil(one)
	if !spec.Same(base, before) || !spec.Same(two.Ending(base.Wrong), spec.New(1).With(x).With(y).With(spec.Step{Kind: spec.Set, Settings: []api.Setting{{Id: 9, Value: 2}}})) {
		t.Error("With shares:", base, two)
	}
	spoil(three)
	if !spec.Same(base, before) || x.Fields[0].Name != "a" || y.Settings[0].Id != 1 {
		t.Error("Ending shares:", base, x, y)
	}
	x.Fields[0].Name, y.Settings[0].Value = "spoilt", 9
	if !spec.Same(base, before) || base.Steps[0].Fields[0].Name != "a" || base.Steps[1].Settings[0].Value != 2 {
		t.Error("With keeps what is handed in:", base)
	}
}

func TestP45Same(t *testing.T) {
	full := func() spec.Scenario {
		return spec.Scenario{Side: 1, Steps: []spec.Step{{Kind: 1, Stream: 2, N: 3, End: true, Fields: []api.Field{{Name: "a", Value: "b"}}, Settings: []api.Setting{{Id: 1, Value: 2}}}, {}}, Wrong: spec.Wrong{Kind: 4, Stream: 5}}
	}
	if !spec.Same(full(), full()) || !spec.Same(spec.Scenario{}, spec.Scenario{Steps: []spec.Step{}}) {
		t.Error("not the same")
	}
	empty := spec.Scenario{Steps: []spec.Step{{Fields: []api.Field{}, Settings: []api.Setting{}}}}
	if !spec.Same(empty, spec.Scenario{Steps: []spec.Step{{}}}) {
		t.Error("an empty list is not a nil one")
	}
	for i, change := range []func(*spec.Scenario){
		func(s *spec.Scenario) { s.Side = 0 },
		func(s *spec.Scenario) { s.Wrong.Kind = 5 },
		func(s *spec.Scenario) { s.Wrong.Stream = 4 },
		func(s *spec.Scenario) { s.Steps = s.Steps[:1] },
		func(s *spec.Scenario) { s.Steps = append(s.Steps, spec.Step{}) },
		func(s *spec.Scenario) { slices.Reverse(s.Steps) },
		func(s *spec.Scenario) { s.Steps[0].Kind = 2 },
		func(s *spec.Scenario) { s.Steps[0].Stream = 3 },
		func(s *spec.Scenario) { s.Steps[0].N = 4 },
		func(s *spec.Scenario) { s.Steps[0].End = false },
		func(s *spec.Scenario) { s.Steps[0].Fields = nil },
		func(s *spec.Scenario) { s.Steps[0].Fields[0].Name = "c" },
		func(s *spec.Scenario) { s.Steps[0].Fields[0].Value = "c" },
		func(s *spec.Scenario) { s.Steps[0].Fields[0].Never = true },
		func(s *spec.Scenario) { s.Steps[0].Settings = nil },
		func(s *spec.Scenario) { s.Steps[0].Settings[0].Id = 7 },
		func(s *spec.Scenario) { s.Steps[0].Settings[0].Value = 7 },
	} {
		s := full()
		change(&s)
		if spec.Same(s, full()) || spec.Same(full(), s) || !spec.Same(s, s) {
			t.Error(i, "is the same")
		}
	}
}

func TestP45Numbers(t *testing.T) {
	if l := []int{spec.Headers, spec.Data, spec.Set, spec.Grow, spec.Cut, spec.Call, spec.Leave, spec.Wait}; !slices.Equal(l, []int{1, 2, 3, 4, 5, 6, 7, 8}) || spec.Wrongs != 26 {
		t.Error(l, spec.Wrongs)
	}
}

package inject_test

import (
	"bytes"
	"math"
	"slices"
	"strings"
	"testing"

	"stickler/api"
	"stickler/inject"
	"stickler/monitor"
	"stickler/preface"
	"stickler/spec"
)

const (
	client = api.Client
	server = api.Server
	most   = 1<<31 - 1
)

var names = strings.Fields("pad ping7 pingon setson ackbody sets5 step0 over dataidle rstidle alone prio4 away7 push long table update upper barred nopath within push2 frame0 window rst0 ack")

func TestP46Names(t *testing.T) {
	if len(names) != spec.Wrongs {
		t.Fatal(len(names))
	}
	for i, name := range names {
		if got := inject.Name(i + 1); got != name {
			t.Errorf("%d: %q", i+1, got)
		}
		if kind, is := inject.ByName(name); kind != i+1 || !is {
			t.Error(name, kind, is)
		}
	}
	for _, kind := range []int{0, -1, 27, math.MaxInt, math.MinInt} {
		if got := inject.Name(kind); got != "" {
			t.Error(kind, got)
		}
	}
	for _, name := range []string{"", "PAD", "pad ", " pad", "pa", "ping", "ping77", "1", "\x00"} {
		if kind, is := inject.ByName(name); kind != 0 || is {
			t.Error(name, kind, is)
		}
	}
}

// form is what a frame is like: its stream is the wrong's, or none.
type form struct {
	kind, flags int
	on          bool
	body        string
}

const (
	request = "\x02\x03GET\x06\x04http\x04\x01/"
	nought4 = "\x00\x00\x00\x00"
	nought8 = nought4 + nought4
)

// forms are the frames of each kind, as the document has them.
var forms = map[string][]form{
	"pad":      {{0, 8, true, "\x05\x00"}},
	"ping7":    {{6, 0, false, nought8[1:]}},
	"pingon":   {{6, 0, true, nought8}},
	"setson":   {{4, 0, true, ""}},
	"ackbody":  {{4, 1, false, nought8[2:]}},
	"sets5":    {{4, 0, false, nought8[3:]}},
	"step0":    {{8, 0, false, nought4}},
	"over":     {{8, 0, false, "\x7f\xff\xff\xff"}},
	"dataidle": {{0, 0, true, "\x00"}},
	"rstidle":  {{3, 0, true, "\x00\x00\x00\x08"}},
	"alone":    {{9, 4, true, ""}},
	"prio4":    {{2, 0, true, nought4}},
	"away7":    {{7, 0, false, nought8[1:]}},
	"push":     {{5, 4, true, "\x00\x00\x00\x02"}},
	"long":     {{200, 0, false, string(make([]byte, 16385))}},
	"table":    {{1, 5, true, "\x80"}},
	"update":   {{1, 5, true, "\x3f\xe0\xff\xff\xff\x07"}},
	"upper":    {{1, 5, true, request + "\x00\x01A\x01b"}},
	"barred":   {{1, 5, true, request + "\x00\x0aconnection\x05close"}},
	"nopath":   {{1, 5, true, strings.TrimSuffix(request, "\x04\x01/")}},
	"within":   {{1, 0, true, ""}, {6, 0, false, nought8}},
	"push2":    {{4, 0, false, "\x00\x02\x00\x00\x00\x02"}},
	"frame0":   {{4, 0, false, "\x00\x05\x00\x00\x00\x00"}},
	"window":   {{4, 0, false, "\x00\x04\x80\x00\x00\x00"}},
	"rst0":     {{3, 0, false, "\x00\x00\x00\x08"}},
	"ack":      {{4, 1, false, ""}},
}

func raws(l []form, w spec.Wrong, side int) []api.Raw {
	var all []api.Raw
	for _, f := range l {
		r := api.Raw{From: side, Type: f.kind, Flags: f.flags, Body: []byte(f.body)}
		if f.on {
			r.Stream = w.Stream
		}
		all = append(all, r)
	}
	return all
}

func same(a, b []api.Raw) bool {
	return slices.EqualFunc(a, b, func(x, y api.Raw) bool {
		return x.From == y.From && x.Type == y.Type && x.Flags == y.Flags && x.Stream == y.Stream && x.Res == y.Res && bytes.Equal(x.Body, y.Body)
	})
}

// each calls f with every kind, of both sides, on some streams.
func each(f func(w spec.Wrong, side int)) {
	for kind := 1; kind <= spec.Wrongs; kind++ {
		for side := range 2 {
			for _, stream := range []int{1, 2, 3, 4, 77, most - 1, most} {
				f(spec.Wrong{Kind: kind, Stream: stream}, side)
			}
		}
	}
}

func TestP46Frames(t *testing.T) {
	each(func(w spec.Wrong, side int) {
		want := raws(forms[names[w.Kind-1]], w, side)
		l, e := inject.Frames(w, side)
		if e != api.OK || len(want) == 0 || !same(l, want) {
			t.Error(w, side, l, e)
		}
		for i := range l { // what is answered is new memory
			for j := range l[i].Body {
				l[i].Body[j]++
			}
		}
		if l, _ = inject.Frames(w, side); !same(l, want) {
			t.Error("shared:", w, side, l)
		}
	})
}

// none calls f with what may not be.
func none(f func(w spec.Wrong, side int)) {
	for _, n := range []int{-1, 2, math.MaxInt, math.MinInt} {
		f(spec.Wrong{Kind: 2, Stream: 1}, n)
	}
	for _, n := range []int{0, -1, 27, math.MaxInt, math.MinInt} {
		f(spec.Wrong{Kind: n, Stream: 1}, client)
	}
	for _, n := range []int{0, -1, most + 1, math.MaxInt, math.MinInt} {
		f(spec.Wrong{Kind: 2, Stream: n}, server)
	}
}

func TestP46FramesOfNone(t *testing.T) {
	none(func(w spec.Wrong, side int) {
		if l, e := inject.Frames(w, side); e != api.ErrArg || len(l) > 0 {
			t.Error(w, side, l, e)
		}
	})
}

// ruleOf is the rule as the document has it.
func ruleOf(w spec.Wrong, side int) int {
	name := names[w.Kind-1]
	switch name {
	case "step0":
		return api.RuleStep
	case "over":
		return api.RuleWindow
	case "dataidle", "rstidle":
		return api.RuleIdle
	case "alone", "within":
		return api.RuleOrder
	case "push":
		if side == client {
			return api.RuleClient
		}
		return api.RulePromise
	case "long":
		return api.RuleSize
	case "table":
		return api.RuleTable
	case "update":
		return api.RuleUpdate
	case "push2", "frame0", "window":
		return api.RuleValue
	case "ack":
		return api.RuleAck
	case "upper", "barred", "nopath":
		if side == server || w.Stream%2 == 0 {
			return api.RuleIdle
		}
		return map[string]int{"upper": api.RuleField, "barred": api.RuleBarred, "nopath": api.RulePseudo}[name]
	}
	return api.RuleForm
}

func TestP46Rule(t *testing.T) {
	each(func(w spec.Wrong, side int) {
		if got := inject.Rule(w, side); got != ruleOf(w, side) {
			t.Error(names[w.Kind-1], w, side, got)
		}
	})
	none(func(w spec.Wrong, side int) {
		if got := inject.Rule(w, side); got != 0 {
			t.Error(w, side, got)
		}
	})
}

// begun is a monitor of a connection on which both sides' settings, without any, are acknowledged.
func begun(t *testing.T, c api.Config) *monitor.Monitor {
	t.Helper()
	m, e := monitor.New(c)
	if e != api.OK {
		t.Fatal(c)
	}
	for _, r := range []api.Raw{{Type: api.Preface, Body: preface.Text()}, {Type: api.Settings}, {From: server, Type: api.Settings},
		{From: server, Type: api.Settings, Flags: api.FlagAck}, {Type: api.Settings, Flags: api.FlagAck}} {
		if o, e := m.Step(r); e != api.OK || o.Kind != api.Allowed {
			t.Fatal(r, o, e)
		}
	}
	return m
}

func TestP46WhatFollows(t *testing.T) {
	for _, c := range []api.Config{
		{Streams: 1, Block: 1000, Queue: 1, Table: 4096},
		{Grace: 1, Streams: 9, Block: 5000, Queue: 3, Pings: 3, Table: 8000},
		{Grace: 64, Streams: 1024, Block: 1 << 20, Queue: 32, Pings: 64, Table: 1 << 20},
	} {
		each(func(w spec.Wrong, side int) {
			m := begun(t, c)
			l, _ := inject.Frames(w, side)
			for i, r := range l {
				o, e := m.Step(r)
				if e != api.OK {
					t.Fatal(w, side, e)
				}
				if i < len(l)-1 && o.Kind != api.Allowed && o.Kind != api.Ignored {
					t.Error(names[w.Kind-1], w, side, o)
				}
				if i == len(l)-1 && (o.Kind != api.Rejected || !slices.Equal(o.Rules, []int{inject.Rule(w, side)})) {
					t.Error(names[w.Kind-1], w, side, o)
				}
			}
		})
	}
}

package life_test

import (
	"math"
	"slices"
	"strings"
	"testing"

	"stickler/api"
	"stickler/life"
)

const (
	c = api.Client
	s = api.Server
)

var (
	noSides = []int{math.MinInt, -1, 2, 3, math.MaxInt}
	types   = []int{api.Data, api.Headers, api.Reset, api.Window, api.Promise}
	noTypes = []int{math.MinInt, -2, api.Preface, api.Settings, api.Ping, api.Goaway, api.Continue, 10, 255, 256, math.MaxInt}
)

func open(owner int, byClient, byServer bool) life.State {
	return life.State{Kind: life.Open, Owner: owner, End: [2]bool{byClient, byServer}}
}

func closed(owner, by int) life.State {
	return life.State{Kind: life.Closed, Owner: owner, By: by}
}

// row is a state, whether its receiver knows of it, and what DATA, HEADERS, RST_STREAM, WINDOW_UPDATE and PUSH_PROMISE of each side mean.
type row struct {
	state  life.State
	kept   bool
	client string
	server string
}

var rows = []row{
	{life.State{Kind: life.Idle, Owner: c}, false, "idle pass idle idle promise", "idle idle idle idle promise"},
	{life.State{Kind: life.Idle, Owner: s}, false, "idle idle idle idle promise", "idle idle idle idle promise"},
	{life.State{Kind: life.Skipped, Owner: c}, false, "forgotten number forgotten forgotten promise", "forgotten forgotten forgotten forgotten promise"},
	{life.State{Kind: life.Skipped, Owner: s}, false, "forgotten forgotten forgotten forgotten promise", "forgotten number forgotten forgotten promise"},
	{life.State{Kind: life.Reserved, Owner: s}, false, "reserved reserved pass pass promise", "reserved pass pass reserved promise"},
	{open(c, false, false), false, "pass pass pass pass promise", "pass pass pass pass pass"},
	{open(c, true, false), false, "ended ended pass pass promise", "pass pass pass pass pass"},
	{open(c, false, true), false, "pass pass pass pass promise", "ended ended pass pass promise"},
	{open(s, false, false), false, "pass pass pass pass promise", "pass pass pass pass promise"},
	{open(s, true, false), false, "ended ended pass pass promise", "pass pass pass pass promise"},
	{open(s, false, true), false, "pass pass pass pass promise", "ended ended pass pass promise"},
	{closed(c, c), true, "reset reset reset reset promise", "ignore ignore ignore ignore pass"},
	{closed(c, s), true, "ignore ignore ignore ignore promise", "reset reset reset reset promise"},
	{closed(c, life.Both), true, "closed closed ignore ignore promise", "closed closed ignore ignore promise"},
	{closed(s, c), true, "reset reset reset reset promise", "ignore ignore ignore ignore promise"},
	{closed(s, s), true, "ignore ignore ignore ignore promise", "reset reset reset reset promise"},
	{closed(s, life.Both), true, "closed closed ignore ignore promise", "closed closed ignore ignore promise"},
}

func init() {
	all := rows
	for _, r := range all {
		if r.state.Kind == life.Closed { // that nobody knows of
			r.client = "forgotten forgotten forgotten forgotten promise"
			r.server = r.client
		}
		r.kept = !r.kept
		rows = append(rows, r)
	}
}

func told(word string) (int, int) {
	rules := map[string]int{
		"idle": api.RuleIdle, "number": api.RuleNumber, "forgotten": api.RuleForgotten, "reserved": api.RuleReserved,
		"ended": api.RuleEnded, "closed": api.RuleClosed, "reset": api.RuleReset, "promise": api.RulePromise,
	}
	switch word {
	case "pass":
		return life.Pass, 0
	case "ignore":
		return life.Ignore, 0
	}
	return life.Break, rules[word]
}

// states are all of small numbers, right or not.
func states() []life.State {
	var l []life.State
	some := []int{math.MinInt, -1, 0, 1, 2, 3, math.MaxInt}
	for _, kind := range append([]int{4, 5}, some...) {
		for _, owner := range some {
			for _, by := range some {
				for end := range 4 {
					l = append(l, life.State{Kind: kind, Owner: owner, By: by, End: [2]bool{end&1 > 0, end&2 > 0}})
				}
			}
		}
	}
	return l
}

func isRight(state life.State) bool {
	for _, r := range rows {
		if r.state == state {
			return true
		}
	}
	return false
}

func TestP331Numbers(t *testing.T) {
	kinds := []int{life.Idle, life.Skipped, life.Reserved, life.Open, life.Closed}
	answers := []int{life.Pass, life.Ignore, life.Break}
	if !slices.Equal(kinds, []int{0, 1, 2, 3, 4}) || !slices.Equal(answers, []int{1, 2, 3}) || life.Both != 2 {
		t.Error(kinds, answers, life.Both)
	}
}

func TestP331Right(t *testing.T) {
	n := 0
	for _, state := range states() {
		if life.Right(state) != isRight(state) {
			t.Errorf("Right(%+v): %v", state, life.Right(state))
		}
		if life.Right(state) {
			n++
		}
	}
	if n != len(rows)/2 {
		t.Errorf("%d states are right", n)
	}
	if !life.Right(life.State{}) {
		t.Error("the zero value is an idle stream of the client's")
	}
}

func TestP332Ask(t *testing.T) {
	for _, r := range rows {
		for side, line := range []string{r.client, r.server} {
			for i, word := range strings.Fields(line) {
				answer, rule := life.Ask(r.state, side, types[i], r.kept)
				if a, b := told(word); a != answer || b != rule {
					t.Errorf("Ask(%+v, %d, %d, %v): %d, %d, want %s", r.state, side, types[i], r.kept, answer, rule, word)
				}
			}
		}
	}
}

func TestP332Priority(t *testing.T) {
	for _, r := range rows {
		for side := range 2 {
			if a, rule := life.Ask(r.state, side, api.Priority, r.kept); a != life.Ignore || rule != 0 {
				t.Errorf("Ask(%+v, %d, PRIORITY, %v): %d, %d", r.state, side, r.kept, a, rule)
			}
		}
	}
}

func TestP332Wrong(t *testing.T) {
	nothing := func(state life.State, side, kind int, kept bool) {
		t.Helper()
		if a, rule := life.Ask(state, side, kind, kept); a != 0 || rule != 0 {
			t.Errorf("Ask(%+v, %d, %d, %v): %d, %d", state, side, kind, kept, a, rule)
		}
	}
	for _, r := range rows {
		for _, kind := range noTypes {
			nothing(r.state, c, kind, r.kept)
			nothing(r.state, s, kind, r.kept)
		}
		for _, side := range noSides {
			for _, kind := range append([]int{api.Priority}, types...) {
				nothing(r.state, side, kind, r.kept)
			}
		}
	}
	for _, state := range states() {
		if isRight(state) {
			continue
		}
		for _, kind := range append([]int{api.Priority, api.Ping}, types...) {
			for side := range 2 {
				nothing(state, side, kind, false)
				nothing(state, side, kind, true)
			}
		}
	}
}

func TestP333Ends(t *testing.T) {
	for owner := range 2 {
		for _, step := range []struct {
			from life.State
			side int
			to   life.State
		}{
			{open(owner, false, false), c, open(owner, true, false)},
			{open(owner, false, false), s, open(owner, false, true)},
			{open(owner, true, false), c, open(owner, true, false)},
			{open(owner, false, true), s, open(owner, false, true)},
			{open(owner, true, false), s, closed(owner, life.Both)},
			{open(owner, false, true), c, closed(owner, life.Both)},
		} {
			if to := life.Ends(step.from, step.side); to != step.to {
				t.Errorf("Ends(%+v, %d): %+v", step.from, step.side, to)
			}
		}
	}
	for _, state := range states() {
		for _, side := range noSides {
			if life.Ends(state, side) != state {
				t.Errorf("Ends(%+v, %d)", state, side)
			}
		}
		for side := range 2 {
			if state.Kind != life.Open && life.Ends(state, side) != state {
				t.Errorf("Ends(%+v, %d)", state, side)
			}
		}
	}
}

func TestP333Resets(t *testing.T) {
	for side := range 2 {
		for owner := range 2 {
			for _, from := range []life.State{open(owner, false, false), open(owner, true, false), open(owner, false, true)} {
				if to := life.Resets(from, side); to != closed(owner, side) {
					t.Errorf("Resets(%+v, %d): %+v", from, side, to)
				}
			}
		}
		if to := life.Resets(life.State{Kind: life.Reserved, Owner: s}, side); to != closed(s, side) {
			t.Errorf("Resets of a promised one by %d: %+v", side, to)
		}
	}
	for _, state := range states() {
		for _, side := range noSides {
			if life.Resets(state, side) != state {
				t.Errorf("Resets(%+v, %d)", state, side)
			}
		}
		if state.Kind == life.Open || state.Kind == life.Reserved {
			continue
		}
		for side := range 2 {
			if life.Resets(state, side) != state {
				t.Errorf("Resets(%+v, %d)", state, side)
			}
		}
	}
}

func TestP333Right(t *testing.T) {
	for _, r := range rows {
		for _, side := range append([]int{c, s}, noSides...) {
			if !life.Right(life.Ends(r.state, side)) || !life.Right(life.Resets(r.state, side)) {
				t.Errorf("behind %+v and %d something is not right", r.state, side)
			}
		}
	}
}

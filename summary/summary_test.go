package summary_test

import (
	"math"
	"math/rand"
	"slices"
	"testing"

	"stickler/api"
	"stickler/rules"
	"stickler/summary"
)

func same(a, b summary.Summary) bool {
	return a.Frames == b.Frames && a.Bytes == b.Bytes && a.Types == b.Types && a.Kinds == b.Kinds && slices.Equal(a.Sections, b.Sections)
}

// comes says what records and rules come to.
func comes(t *testing.T, want summary.Summary, broken []int, l ...api.Record) {
	t.Helper()
	records, was := slices.Clone(l), slices.Clone(broken)
	if got := summary.Of(api.Report{Records: l, Rules: broken}); !same(got, want) {
		t.Errorf("%+v, not %+v", got, want)
	}
	if !slices.Equal(l, records) || !slices.Equal(broken, was) {
		t.Error("changed:", l, broken)
	}
}

func TestP441Counts(t *testing.T) {
	comes(t, summary.Summary{}, nil)
	comes(t, summary.Summary{Frames: [2]int{0, 1}, Bytes: [2]int{0, 9}, Types: [11]int{4: 1}, Kinds: [5]int{1: 1}}, nil, api.Record{From: 1, Type: 4, Kind: 1})
	comes(t, summary.Summary{Frames: [2]int{1, 0}, Bytes: [2]int{24, 0}, Types: [11]int{10: 1}, Kinds: [5]int{3: 1}}, nil, api.Record{Type: -1, Length: 24, Kind: 3})
	comes(t, summary.Summary{Frames: [2]int{3, 2}, Bytes: [2]int{24 + 9 + 12 + 9 + 5, 18 + 1<<24 - 1}, Types: [11]int{0: 1, 1: 2, 10: 2}, Kinds: [5]int{1: 2, 2: 2, 4: 1}}, nil,
		api.Record{Type: -1, Length: 24, Kind: 1}, api.Record{Type: 1, Length: 12, Kind: 1}, api.Record{From: 1, Type: 10, Kind: 2}, api.Record{Type: 0, Length: 5, Kind: 2}, api.Record{From: 1, Type: 1, Length: 1<<24 - 1, Kind: 4})
}

func TestP441Types(t *testing.T) {
	for n := range 10 {
		want := summary.Summary{Frames: [2]int{1, 1}, Bytes: [2]int{10, 11}}
		want.Types[n] = 2
		comes(t, want, nil, api.Record{Type: n, Length: 1}, api.Record{From: 1, Type: n, Length: 2})
	}
	for _, n := range []int{10, 11, 255, 256, -2, math.MinInt, math.MaxInt} {
		comes(t, summary.Summary{Frames: [2]int{0, 1}, Bytes: [2]int{0, 12}, Types: [11]int{10: 1}}, nil, api.Record{From: 1, Type: n, Length: 3})
	}
	// Of a Preface nothing is ahead, whoever sends it and whatever its length is.
	comes(t, summary.Summary{Frames: [2]int{1, 1}, Bytes: [2]int{7, 100}, Types: [11]int{10: 2}}, nil, api.Record{Type: -1, Length: 7}, api.Record{From: 1, Type: -1, Length: 100})
}

func TestP441Nowhere(t *testing.T) {
	for _, from := range []int{-1, -2, 2, 3, math.MinInt, math.MaxInt} {
		comes(t, summary.Summary{}, nil, api.Record{From: from, Type: 1, Length: 5, Kind: 1}, api.Record{From: from, Type: -1, Length: 24, Kind: 3}, api.Record{From: from, Type: 99, Kind: 9})
	}
	for _, kind := range []int{0, 5, -1, math.MinInt, math.MaxInt} {
		comes(t, summary.Summary{Frames: [2]int{1, 0}, Bytes: [2]int{14, 0}, Types: [11]int{1: 1}}, nil, api.Record{Type: 1, Length: 5, Kind: kind})
	}
	for kind := 1; kind <= 4; kind++ {
		want := summary.Summary{Frames: [2]int{1, 0}, Bytes: [2]int{9, 0}, Types: [11]int{1}}
		want.Kinds[kind] = 1
		comes(t, want, nil, api.Record{Kind: kind})
	}
}

func TestP441Lengths(t *testing.T) {
	for n, bytes := range map[int]int{-1: 0, 1 << 24: 0, math.MinInt: 0, math.MaxInt: 0, 0: 0, 1: 1, 1<<24 - 1: 1<<24 - 1} {
		comes(t, summary.Summary{Frames: [2]int{1, 0}, Bytes: [2]int{bytes + 9, 0}, Types: [11]int{1}, Kinds: [5]int{2: 1}}, nil, api.Record{Length: n, Kind: 2})
		comes(t, summary.Summary{Frames: [2]int{1, 0}, Bytes: [2]int{bytes, 0}, Types: [11]int{10: 1}}, nil, api.Record{Type: -1, Length: n})
	}
}

func TestP441Sections(t *testing.T) {
	for _, x := range []struct {
		broken []int
		want   []string
	}{
		{nil, nil}, {[]int{0, 36, -1, math.MaxInt}, nil}, {[]int{1}, []string{"3.4"}}, {[]int{2, 1, 1}, []string{"3.4"}},
		{[]int{3, 4}, []string{"4.2", "6.10"}}, {[]int{6, 4, 5, 0}, []string{"6", "6.10", "6.5.2"}}, {[]int{17, 18, 8, 19}, []string{"6.9", "6.9.1", "6.9.2"}},
		{[]int{16, 15, 11, 10}, []string{"5.1", "5.1.1"}}, {[]int{35, 34, 33}, []string{"8.1", "8.4"}},
	} {
		comes(t, summary.Summary{Sections: x.want}, x.broken)
	}
	random := rand.New(rand.NewSource(441))
	for range 500 {
		var l []int
		want := map[string]bool{}
		for range random.Intn(20) {
			n := random.Intn(40) - 2
			l = append(l, n)
			if s := rules.Section(n); s != "" {
				want[s] = true
			}
		}
		got := summary.Of(api.Report{Rules: l}).Sections
		if len(got) != len(want) || !slices.IsSorted(got) {
			t.Fatal(l, got)
		}
		for _, s := range got {
			if !want[s] {
				t.Fatal(l, got)
			}
		}
	}
}

// Nothing else of a report matters.
func TestP441Any(t *testing.T) {
	l := []api.Record{{Type: 4, Kind: 1}, {From: 1, Type: 4, Kind: 3}}
	a := summary.Of(api.Report{Records: l, Rules: []int{7}})
	b := summary.Of(api.Report{Config: api.Config{Grace: -1}, Records: l, Verdict: 77, At: -5, Faults: []api.Fault{{}}, Rules: []int{7}, Left: [2]int{-1, 9}})
	if !same(a, b) || a.Frames != [2]int{1, 1} || a.Sections[0] != "6.5.3" {
		t.Error(a, b)
	}
}

func says(t *testing.T, s summary.Summary, want ...string) {
	t.Helper()
	was := s
	was.Sections = slices.Clone(s.Sections)
	if got := summary.Text(s); !slices.Equal(got, want) || !same(s, was) {
		t.Errorf("%q, not %q", got, want)
	}
}

func TestP442Text(t *testing.T) {
	says(t, summary.Summary{}, "client 0 0", "server 0 0")
	says(t, summary.Of(api.Report{Records: []api.Record{{From: 1, Type: 4, Kind: 1}}}), "client 0 0", "server 1 9", "SETTINGS 1", "allowed 1")
	says(t, summary.Summary{Frames: [2]int{1, 2}, Bytes: [2]int{3, 4}, Types: [11]int{1, 2, 3, 4, 5, 6, 7, 8, 9, 10, 11}, Kinds: [5]int{9, 1, 2, 3, 4}, Sections: []string{"3.4", "6"}},
		"client 1 3", "server 2 4", "DATA 1", "HEADERS 2", "PRIORITY 3", "RST_STREAM 4", "SETTINGS 5", "PUSH_PROMISE 6", "PING 7", "GOAWAY 8", "WINDOW_UPDATE 9", "CONTINUATION 10", "others 11",
		"allowed 1", "ignored 2", "rejected 3", "limited 4", "sections 3.4 6")
	says(t, summary.Summary{Types: [11]int{9: 1}, Kinds: [5]int{4: 1}}, "client 0 0", "server 0 0", "CONTINUATION 1", "limited 1")
	says(t, summary.Summary{Types: [11]int{10: math.MaxInt}, Kinds: [5]int{0: 5}, Sections: []string{"8.4"}}, "client 0 0", "server 0 0", "others 9223372036854775807", "sections 8.4")
}

func TestP442NotThere(t *testing.T) {
	s := summary.Summary{Frames: [2]int{-1, math.MinInt}, Bytes: [2]int{-20, math.MaxInt}}
	for i := range s.Types {
		s.Types[i] = -i
	}
	for i := range s.Kinds {
		s.Kinds[i] = -i
	}
	says(t, s, "client -1 -20", "server -9223372036854775808 9223372036854775807")
	// Sections are told as they are.
	says(t, summary.Summary{Sections: []string{"b a", "", "b a"}}, "client 0 0", "server 0 0", "sections b a  b a")
}

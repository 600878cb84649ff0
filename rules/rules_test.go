package rules_test

import (
	"math"
	"math/rand"
	"slices"
	"strings"
	"testing"

	"stickler/api"
	"stickler/faults"
	"stickler/rules"
)

// written is what is written of the rules: the number, the name, the section, what it asks.
const written = `1|first|3.4|the first frame of each side is SETTINGS without ACK
2|preface|3.4|the client's first 24 bytes are the preface
3|size|4.2|a frame is not longer than its receiver lets
4|order|6.10|nothing stands between the parts of a field block
5|form|6|a frame is right in itself
6|value|6.5.2|settings have values that may be
7|ack|6.5.3|what is acknowledged was sent
8|spread|6.9.2|settings make no window too large
9|away|6.8|the last stream of GOAWAY does not rise
10|idle|5.1|nothing is sent on a stream that was not begun
11|number|5.1.1|new streams have numbers that rise
12|reserved|5.1|little is sent on a stream that was promised
13|ended|5.1|nothing more is sent by who has ended
14|closed|5.1|nothing is sent on a stream that both have ended
15|reset|5.1|nothing is sent on a stream by who has reset it
16|forgotten|5.1|nothing is sent on a stream that was forgotten
17|step|6.9|a window grows by one at least
18|window|6.9.1|a window does not become too large
19|conn|6.9.1|data stay within the connection's window
20|stream|6.9.1|data stay within the stream's window
21|push|6.6|nothing is promised to who does not want it
22|promise|6.6|promises are made on a stream of the client's that is open
23|promised|5.1.1|promised streams have numbers that rise
24|many|5.1.2|not too many streams are open
25|table|4.3|a field block can be read
26|update|4.3.1|a table is not too large
27|missing|4.3.1|a table that must become smaller does
28|field|8.2.1|names and values have bytes that may be
29|barred|8.2.2|no field is one of the connection's own
30|pseudo|8.3|the pseudo-fields are those that must be
31|length|8.1.1|data have the length that was told
32|body|8.1|data stand where they may
33|trailer|8.1|fields behind data end the stream
34|safe|8.4|what is promised is asked by GET or HEAD
35|client|8.4|clients promise nothing`

var noRules = []int{math.MinInt, -35, -1, 0, 36, 37, math.MaxInt}

func TestP381Names(t *testing.T) {
	lines := strings.Split(written, "\n")
	if len(lines) != api.Rules {
		t.Fatal(len(lines))
	}
	for i, line := range lines {
		rule, parts := i+1, strings.Split(line, "|")
		if rules.Name(rule) != parts[1] || rules.Section(rule) != parts[2] || rules.Asks(rule) != parts[3] {
			t.Errorf("%d: %q, %q, %q", rule, rules.Name(rule), rules.Section(rule), rules.Asks(rule))
		}
		if n, is := rules.ByName(parts[1]); n != rule || !is {
			t.Errorf("ByName(%s): %d, %v", parts[1], n, is)
		}
	}
	// The numbers of api stand where they should.
	for rule, name := range map[int]string{api.RuleFirst: "first", api.RuleAway: "away", api.RuleStep: "step", api.RuleMany: "many", api.RuleMissing: "missing", api.RuleSafe: "safe", api.RuleClient: "client"} {
		if rules.Name(rule) != name {
			t.Errorf("Name(%d): %s", rule, rules.Name(rule))
		}
	}
}

func TestP381None(t *testing.T) {
	for _, rule := range noRules {
		if rules.Name(rule) != "" || rules.Section(rule) != "" || rules.Asks(rule) != "" {
			t.Errorf("%d is a rule", rule)
		}
	}
	for _, name := range []string{"", "-", "First", "first ", " first", "first,size", "1", "3.4", "SIZE", "\x00"} {
		if n, is := rules.ByName(name); n != 0 || is {
			t.Errorf("ByName(%q): %d, %v", name, n, is)
		}
	}
}

// Faults of the rules of which each frame is told likewise.
func always() map[int]string {
	return map[int]string{
		1: "connection:PROTOCOL_ERROR", 2: "connection:PROTOCOL_ERROR", 4: "connection:PROTOCOL_ERROR", 7: "connection:PROTOCOL_ERROR",
		8: "connection:FLOW_CONTROL_ERROR", 9: "connection:PROTOCOL_ERROR", 10: "connection:PROTOCOL_ERROR", 11: "connection:PROTOCOL_ERROR",
		12: "connection:PROTOCOL_ERROR", 13: "stream:STREAM_CLOSED", 14: "stream:STREAM_CLOSED,connection:STREAM_CLOSED", 15: "stream:STREAM_CLOSED",
		16: "connection:PROTOCOL_ERROR,connection:STREAM_CLOSED", 19: "connection:FLOW_CONTROL_ERROR",
		20: "stream:FLOW_CONTROL_ERROR,connection:FLOW_CONTROL_ERROR", 21: "connection:PROTOCOL_ERROR", 22: "connection:PROTOCOL_ERROR",
		23: "connection:PROTOCOL_ERROR", 24: "stream:PROTOCOL_ERROR,stream:REFUSED_STREAM", 25: "connection:COMPRESSION_ERROR",
		26: "connection:COMPRESSION_ERROR", 27: "connection:COMPRESSION_ERROR", 28: "stream:PROTOCOL_ERROR", 29: "stream:PROTOCOL_ERROR",
		30: "stream:PROTOCOL_ERROR", 31: "stream:PROTOCOL_ERROR", 32: "stream:PROTOCOL_ERROR", 33: "stream:PROTOCOL_ERROR",
		34: "stream:PROTOCOL_ERROR", 35: "connection:PROTOCOL_ERROR",
	}
}

func told(t *testing.T, rule int, r api.Raw, want string) {
	t.Helper()
	got := rules.Faults(rule, r)
	set, _ := faults.ReadSet(want)
	if !faults.Same(got, set) {
		t.Errorf("%d, of %+v: %s, want %s", rule, r, faults.Show(got), want)
	}
}

func TestP382Always(t *testing.T) {
	if len(always()) != api.Rules-5 {
		t.Fatal(len(always()))
	}
	frames := []api.Raw{
		{}, {Type: api.Data, Stream: 1, Body: []byte{1}}, {From: api.Server, Type: api.Headers, Stream: 2}, {Type: api.Preface},
		{Type: api.Settings}, {From: 7, Type: -9, Flags: math.MinInt, Stream: -3}, {Type: api.Window, Body: make([]byte, 4)},
	}
	for rule, want := range always() {
		for _, r := range frames {
			told(t, rule, r, want)
		}
	}
	for _, rule := range noRules {
		for _, r := range frames {
			told(t, rule, r, "-")
		}
	}
}

func TestP382Size(t *testing.T) {
	for kind := range 256 {
		of := "stream"
		if kind == api.Headers || kind == api.Settings || kind == api.Promise || kind == api.Continue {
			of = "connection"
		}
		for _, stream := range []int{1, 2, api.MaxStream} {
			told(t, api.RuleSize, api.Raw{Type: kind, Stream: stream}, of+":FRAME_SIZE_ERROR")
		}
		told(t, api.RuleSize, api.Raw{Type: kind, From: api.Server}, "connection:FRAME_SIZE_ERROR")
	}
}

func TestP382Windows(t *testing.T) {
	for _, stream := range []int{1, 2, api.MaxStream} {
		r := api.Raw{Type: api.Window, Stream: stream, Body: make([]byte, 4)}
		told(t, api.RuleStep, r, "stream:PROTOCOL_ERROR")
		told(t, api.RuleWindow, r, "stream:FLOW_CONTROL_ERROR")
	}
	r := api.Raw{Type: api.Window, Body: make([]byte, 4)}
	told(t, api.RuleStep, r, "connection:PROTOCOL_ERROR")
	told(t, api.RuleWindow, r, "connection:FLOW_CONTROL_ERROR")
}

func TestP382Form(t *testing.T) {
	for _, x := range []struct {
		r    api.Raw
		want string
	}{
		{api.Raw{Type: api.Ping, Body: make([]byte, 7)}, "connection:FRAME_SIZE_ERROR"},
		{api.Raw{Type: api.Ping, Stream: 1, Body: make([]byte, 7)}, "connection:PROTOCOL_ERROR"},
		{api.Raw{Type: api.Priority, Stream: 1, Body: make([]byte, 4)}, "stream:FRAME_SIZE_ERROR"},
		{api.Raw{Type: api.Data, Stream: 1, Flags: api.FlagPadded}, "stream:FRAME_SIZE_ERROR"},
		{api.Raw{Type: api.Data, Stream: 1, Flags: api.FlagPadded, Body: []byte{1}}, "connection:PROTOCOL_ERROR"},
		{api.Raw{Type: api.Ping, Body: make([]byte, 8)}, "-"},
		{api.Raw{Type: 99, Stream: 1}, "-"},
		{api.Raw{Type: api.Preface}, "-"},
		{api.Raw{Type: 256}, "-"},
		{api.Raw{Type: api.Ping, Stream: -1}, "-"},
	} {
		told(t, api.RuleForm, x.r, x.want)
	}
}

func TestP382Value(t *testing.T) {
	sets := func(from int, b ...byte) api.Raw {
		return api.Raw{From: from, Type: api.Settings, Body: b}
	}
	for _, x := range []struct {
		r    api.Raw
		want string
	}{
		{sets(0, 0, 2, 0, 0, 0, 2), "connection:PROTOCOL_ERROR"},
		{sets(0, 0, 2, 0, 0, 0, 1), "-"},
		{sets(1, 0, 2, 0, 0, 0, 1), "connection:PROTOCOL_ERROR"},
		{sets(1, 0, 2, 0, 0, 0, 0), "-"},
		{sets(0, 0, 4, 128, 0, 0, 0), "connection:FLOW_CONTROL_ERROR"},
		{sets(0, 0, 4, 127, 255, 255, 255), "-"},
		{sets(1, 0, 5, 0, 0, 63, 255), "connection:PROTOCOL_ERROR"},
		{sets(1, 0, 4, 128, 0, 0, 0, 0, 5, 0, 0, 0, 0), "connection:FLOW_CONTROL_ERROR"},
		{sets(1, 0, 5, 0, 0, 0, 0, 0, 4, 128, 0, 0, 0), "connection:PROTOCOL_ERROR"},
		{sets(1, 0, 5, 0, 0, 0), "-"}, // it is wrong in itself, and says nothing
		{sets(0), "-"},
		{api.Raw{Type: api.Ping, Body: []byte{0, 2, 0, 0, 0, 2, 0, 0}}, "-"},
		{api.Raw{Type: api.Preface}, "-"},
		{api.Raw{Type: api.Settings, Stream: 1, Body: []byte{0, 2, 0, 0, 0, 2}}, "-"},
	} {
		told(t, api.RuleValue, x.r, x.want)
	}
}

func TestP383Of(t *testing.T) {
	l := []int{19, 3, 0, 36, 3, -1, 35, 1, math.MaxInt, 19}
	was := slices.Clone(l)
	if got := rules.Of(l...); !slices.Equal(got, []int{1, 3, 19, 35}) || !slices.Equal(l, was) {
		t.Error(got, l)
	}
	if got := rules.Of(noRules...); len(got) != 0 {
		t.Error(got)
	}
	if got := rules.Of(); len(got) != 0 {
		t.Error(got)
	}
}

func TestP383Show(t *testing.T) {
	for _, x := range []struct {
		l    []int
		want string
	}{
		{[]int{19, 3}, "size,conn"}, {nil, "-"}, {[]int{0, 36, -5}, "-"}, {[]int{35}, "client"},
		{[]int{20, 16, 15, 16, 99}, "reset,forgotten,stream"}, {[]int{1, 2}, "first,preface"},
	} {
		was := slices.Clone(x.l)
		if got := rules.Show(x.l); got != x.want || !slices.Equal(x.l, was) {
			t.Errorf("Show(%v): %s", x.l, got)
		}
	}
}

func TestP383ReadSet(t *testing.T) {
	random := rand.New(rand.NewSource(383))
	for range 2000 {
		var l []int
		for range random.Intn(8) {
			l = append(l, random.Intn(40)-2)
		}
		set := rules.Of(l...)
		if got, is := rules.ReadSet(rules.Show(l)); !is || !slices.Equal(got, set) {
			t.Fatalf("%v: %v, %v", set, got, is)
		}
	}
	for _, s := range []string{"", ",", "size,", ",size", "conn,size", "size,size", "size, conn", "size conn", "-,size", "size,-", "--", " -", "Size", "3", "size,none", "size,,conn"} {
		if got, is := rules.ReadSet(s); is || len(got) != 0 {
			t.Errorf("ReadSet(%q): %v, %v", s, got, is)
		}
	}
	if got, is := rules.ReadSet("-"); !is || len(got) != 0 {
		t.Error(got, is)
	}
}

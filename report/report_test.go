package report_test

import (
	"math"
	"math/rand"
	"slices"
	"strings"
	"testing"

	"stickler/api"
	"stickler/faults"
	"stickler/head"
	"stickler/oracle"
	"stickler/preface"
	"stickler/report"
	"stickler/rules"
)

func conf() api.Config {
	return api.Config{Grace: 1, Streams: 9, Block: 1000, Queue: 3, Pings: 3, Table: 8000}
}

func first() api.Record {
	return api.Record{Type: api.Preface, Length: 24, Kind: api.Allowed}
}

func ping(from, kind int) api.Record {
	return api.Record{From: from, Type: api.Ping, Length: 8, Kind: kind}
}

func allowed() api.Report {
	return api.Report{Config: conf(), Records: []api.Record{first(), ping(1, 1), ping(0, 2)}, Verdict: api.Allowed, At: 3, Left: [2]int{0, 5}}
}

func rejected() api.Report {
	return api.Report{Config: conf(), Records: []api.Record{first(), ping(1, 2), ping(0, 3)}, Verdict: api.Rejected, At: 2,
		Faults: []api.Fault{{Scope: 1, Code: 5}, {Scope: 2, Code: 1}}, Rules: []int{15, 16}}
}

func limited() api.Report {
	return api.Report{Config: conf(), Records: []api.Record{first(), ping(1, 4)}, Verdict: api.Limited, At: 1}
}

func all() []api.Report {
	return []api.Report{allowed(), rejected(), limited()}
}

const (
	allowedText = `stickler 1
config 1 9 1000 3 3 8000
frames 3
frame client PREFACE 0 0 24 allowed
frame server PING 0 0 8 allowed
frame client PING 0 0 8 ignored
verdict allowed 3
faults -
rules -
left 0 5
`
	rejectedText = `stickler 1
config 1 9 1000 3 3 8000
frames 3
frame client PREFACE 0 0 24 allowed
frame server PING 0 0 8 ignored
frame client PING 0 0 8 rejected
verdict rejected 2
faults stream:STREAM_CLOSED,connection:PROTOCOL_ERROR
rules reset,forgotten
left 0 0
`
	limitedText = `stickler 1
config 1 9 1000 3 3 8000
frames 2
frame client PREFACE 0 0 24 allowed
frame server PING 0 0 8 limited
verdict limited 1
faults -
rules -
left 0 0
`
	emptyText = `stickler 1
config 0 1 0 1 0 4096
frames 0
verdict allowed 0
faults -
rules -
left 0 0
`
)

func empty() api.Report {
	return api.Report{Config: api.Config{Streams: 1, Queue: 1, Table: 4096}, Verdict: api.Allowed}
}

func copied(x api.Report) api.Report {
	x.Records, x.Faults, x.Rules = slices.Clone(x.Records), slices.Clone(x.Faults), slices.Clone(x.Rules)
	return x
}

// same is by the document's words.
func same(a, b api.Report) bool {
	return a.Config == b.Config && slices.Equal(a.Records, b.Records) && a.Verdict == b.Verdict && a.At == b.At &&
		slices.Equal(a.Faults, b.Faults) && slices.Equal(a.Rules, b.Rules) && a.Left == b.Left
}

// wrong are reports that are not right.
func wrong() []api.Report {
	l := []api.Report{{}, {Config: conf()}, {Verdict: api.Allowed}, {Config: conf(), Verdict: api.Rejected}, {Config: conf(), Verdict: api.Limited}, {Config: conf(), Verdict: api.Limited, At: -1},
		{Config: conf(), Verdict: api.Rejected, At: -1, Faults: rejected().Faults, Rules: rejected().Rules}, {Config: conf(), Verdict: api.Ignored}}
	with := func(l ...func(*api.Report)) []api.Report {
		var spoilt []api.Report
		for _, spoil := range l {
			for _, x := range all() {
				before := copied(x)
				if spoil(&x); !same(x, before) {
					spoilt = append(spoilt, x)
				}
			}
		}
		return spoilt
	}
	for _, n := range []int{-1, 1<<20 + 1, math.MinInt, math.MaxInt} {
		l = append(l, with(
			func(x *api.Report) { x.Config.Grace = n }, func(x *api.Report) { x.Config.Streams = n }, func(x *api.Report) { x.Config.Block = n },
			func(x *api.Report) { x.Config.Queue = n }, func(x *api.Report) { x.Config.Pings = n }, func(x *api.Report) { x.Config.Table = n },
			func(x *api.Report) { x.Records[0].From = n }, func(x *api.Report) { x.Records[0].Length = n }, func(x *api.Report) { x.Records[0].Kind = n },
			func(x *api.Report) { x.Records[1].Type = n - 1 }, func(x *api.Report) { x.Records[len(x.Records)-1].Flags = n },
			func(x *api.Report) { x.At = n }, func(x *api.Report) { x.Verdict = n })...)
	}
	for n := range 6 {
		l = append(l, with(func(x *api.Report) { x.Verdict = n }, func(x *api.Report) { x.At = n })...)
	}
	l = append(l, with(
		func(x *api.Report) { x.Left[0] = -1 }, func(x *api.Report) { x.Left[1] = math.MinInt }, func(x *api.Report) { x.At++ }, func(x *api.Report) { x.At-- },
		func(x *api.Report) { x.Records[0].Kind = api.Rejected }, func(x *api.Report) { x.Records[0].Kind = api.Limited }, func(x *api.Report) { x.Records[0].Kind = 0 },
		func(x *api.Report) { x.Records = append(x.Records, ping(1, 1)) }, func(x *api.Report) { x.Records = append(x.Records, ping(1, 3)) },
		func(x *api.Report) { x.Records = append(x.Records, ping(1, 4)) }, func(x *api.Report) { x.Records = x.Records[1:] }, func(x *api.Report) { x.Records = nil },
		func(x *api.Report) { x.Faults = []api.Fault{{}} }, func(x *api.Report) { x.Faults = []api.Fault{{Scope: 1, Code: 1}, {Scope: 1, Code: 1}} },
		func(x *api.Report) { x.Faults = []api.Fault{{Scope: 2, Code: 1}, {Scope: 1, Code: 5}} }, func(x *api.Report) { x.Faults = []api.Fault{{Scope: 1, Code: 1 << 32}} },
		func(x *api.Report) { x.Faults = []api.Fault{{Scope: 1, Code: -1}} }, func(x *api.Report) { x.Faults = []api.Fault{{Scope: 3, Code: 1}} },
		func(x *api.Report) { x.Rules = []int{0} }, func(x *api.Report) { x.Rules = []int{36} }, func(x *api.Report) { x.Rules = []int{1, 1} }, func(x *api.Report) { x.Rules = []int{16, 15} },
		func(x *api.Report) { x.Rules = []int{-1, 1} })...)
	for _, i := range []int{0, 2} {
		x := all()[i]
		x.Faults = rejected().Faults
		y := all()[i]
		y.Rules = rejected().Rules
		l = append(l, x, y)
	}
	for _, i := range []int{1, 2} {
		x := all()[i]
		x.Left[0] = 1
		y := all()[i]
		y.Left[1] = 1
		l = append(l, x, y)
	}
	x := rejected()
	x.Faults = nil
	y := rejected()
	y.Rules = nil
	z := limited()
	z.Records[1].Kind = api.Rejected
	return append(l, x, y, z)
}

func TestP431Right(t *testing.T) {
	more := allowed()
	more.Left = [2]int{math.MaxInt, math.MaxInt}
	none := rejected()
	none.Records = []api.Record{ping(1, 3)}
	none.At = 0
	none.Faults, none.Rules = []api.Fault{{Scope: 2, Code: 1<<32 - 1}}, []int{35}
	lists := allowed()
	lists.Faults, lists.Rules = []api.Fault{}, []int{}
	for _, x := range append(all(), more, none, lists, empty()) {
		before := copied(x)
		if !report.Right(x) || !same(x, before) {
			t.Errorf("%+v", x)
		}
	}
	for _, x := range wrong() {
		before := copied(x)
		if report.Right(x) || !same(x, before) {
			t.Errorf("%+v", x)
		}
	}
}

func TestP432Texts(t *testing.T) {
	texts := []string{allowedText, rejectedText, limitedText, emptyText}
	for i, x := range append(all(), empty()) {
		if s, e := report.Text(x); s != texts[i] || e != api.OK {
			t.Errorf("%+v: %s, %v", x, s, e)
		}
		if y, e := report.Read(texts[i]); !same(x, y) || e != api.OK {
			t.Errorf("%+v, not %+v: %v", y, x, e)
		}
	}
	for _, x := range wrong() {
		if s, e := report.Text(x); s != "" || e != api.ErrArg {
			t.Errorf("%+v: %s, %v", x, s, e)
		}
	}
}

// some is a report that is right.
func some(random *rand.Rand) api.Report {
	of := func(least, most int) int {
		return [...]int{least, most, least + random.Intn(most-least+1)}[random.Intn(3)]
	}
	x := api.Report{Config: api.Config{Grace: of(0, 64), Streams: of(1, 1024), Block: of(0, 1<<20), Queue: of(1, 32), Pings: of(0, 64), Table: of(4096, 1<<20)}}
	record := func(kind int) {
		r := api.Record{From: random.Intn(2), Type: of(0, 255), Flags: of(0, 255), Stream: of(0, 1<<31-1), Length: of(0, 1<<24-1), Kind: kind}
		if random.Intn(4) == 0 {
			r.Type = random.Intn(10)
		}
		x.Records = append(x.Records, r)
	}
	if random.Intn(2) == 0 {
		x.Records = append(x.Records, first())
	}
	for range random.Intn(8) {
		record(1 + random.Intn(2))
	}
	x.Verdict = []int{api.Allowed, api.Rejected, api.Limited}[random.Intn(3)]
	x.At = len(x.Records)
	switch x.Verdict {
	case api.Allowed:
		x.Left = [2]int{of(0, 1<<40), of(0, 20)}
	case api.Rejected:
		for range 1 + random.Intn(4) {
			x.Faults = append(x.Faults, api.Fault{Scope: 1 + random.Intn(2), Code: []int{random.Intn(16), of(0, 1<<32-1)}[random.Intn(2)]})
			x.Rules = append(x.Rules, 1+random.Intn(35))
		}
		x.Faults, x.Rules = faults.Of(x.Faults...), rules.Of(x.Rules...)
	}
	if x.Verdict != api.Allowed {
		record(x.Verdict)
	}
	return x
}

func TestP432ThereAndBack(t *testing.T) {
	random := rand.New(rand.NewSource(432))
	for range 3000 {
		x := some(random)
		if !report.Right(x) {
			t.Fatalf("%+v", x)
		}
		before := copied(x)
		s, e := report.Text(x)
		if e != api.OK || !same(x, before) {
			t.Fatalf("%+v: %v", x, e)
		}
		y, e := report.Read(s)
		if e != api.OK || !same(x, y) {
			t.Fatalf("%+v, not %+v: %v", y, x, e)
		}
		if again, e := report.Text(y); again != s || e != api.OK {
			t.Fatalf("%s, not %s", again, s)
		}
	}
}

func TestP432Wrong(t *testing.T) {
	l := []string{"", "\n", "stickler 1", "stickler 1\n", strings.Repeat("\n", 7), strings.Repeat("\n", 8), strings.Repeat(" \n", 7), "\xff\n", strings.Repeat("frame client DATA 0 0 0 allowed\n", 7)}
	for _, text := range []string{allowedText, rejectedText, limitedText, emptyText} {
		l = append(l, text[1:], text[:len(text)-1], text+"\n", "\n"+text, text+text, " "+text, text+" ", strings.ReplaceAll(text, "\n", "\r\n"), strings.ReplaceAll(text, " ", "  "), strings.ReplaceAll(text, "\n", " \n"), strings.ReplaceAll(text, "\n", "\n\n"), strings.ToUpper(text))
		lines := strings.SplitAfter(text, "\n")
		lines = lines[:len(lines)-1]
		for i := range lines {
			l = append(l, strings.Join(slices.Delete(slices.Clone(lines), i, i+1), ""), strings.Join(slices.Insert(slices.Clone(lines), i, lines[i]), ""))
			// (Records may change places.)
			if i > 0 && lines[i] != lines[i-1] && !(strings.HasPrefix(lines[i], "frame ") && strings.HasPrefix(lines[i-1], "frame ")) {
				swapped := slices.Clone(lines)
				swapped[i], swapped[i-1] = swapped[i-1], swapped[i]
				l = append(l, strings.Join(swapped, ""))
			}
		}
	}
	for _, x := range [][2]string{
		{"stickler 1", "stickler 2"}, {"stickler 1", "stickler 01"}, {"stickler 1", "stickler"}, {"stickler 1", "stickler 1 1"}, {"stickler", "Stickler"},
		{"config 1", "config 65"}, {"config 1", "config -1"}, {"config 1", "config 01"}, {"config 1 9", "config 1 0"}, {"config 1 9", "config 1 1025"}, {"8000", "4095"}, {"8000", "8000 1"}, {" 8000", ""}, {"1000", "1048577"}, {"config", "conf"},
		{"frames 3", "frames 2"}, {"frames 3", "frames 4"}, {"frames 3", "frames 03"}, {"frames 3", "frames -3"}, {"frames 3", "frames 9223372036854775807"}, {"frames 3", "frames"}, {"frames 3", "frames 3 3"}, {"frames 3", "frame 3"},
		{"24 allowed", "24 rejected"}, {"24 allowed", "24 limited"}, {"24 allowed", "25 allowed"}, {"client PREFACE", "server PREFACE"}, {"frame server", "frame other"},
		{"verdict rejected 2", "verdict rejected 1"}, {"verdict rejected 2", "verdict rejected 3"}, {"verdict rejected 2", "verdict allowed 3"}, {"verdict rejected 2", "verdict limited 2"}, {"verdict rejected 2", "verdict 3 2"}, {"verdict rejected 2", "verdict ignored 2"}, {"verdict rejected 2", "verdict rejected"},
		{"stream:STREAM_CLOSED,connection:PROTOCOL_ERROR", "connection:PROTOCOL_ERROR,stream:STREAM_CLOSED"}, {"stream:STREAM_CLOSED,connection:PROTOCOL_ERROR", "-"}, {"stream:STREAM_CLOSED,", "stream:STREAM_CLOSED,stream:STREAM_CLOSED,"}, {"stream:STREAM_CLOSED,", "stream:5,"}, {"stream:STREAM_CLOSED,", "stream:STREAM_CLOSED, "}, {"stream:STREAM_CLOSED,", ","},
		{"reset,forgotten", "forgotten,reset"}, {"reset,forgotten", "-"}, {"reset,forgotten", "reset,reset"}, {"reset,forgotten", "15,16"}, {"reset,forgotten", "reset forgotten"}, {"reset,forgotten", ""}, {"rules reset,forgotten", "rules"},
		{"left 0 0", "left 0 1"}, {"left 0 0", "left 1 0"}, {"left 0 0", "left 0"}, {"left 0 0", "left 0 0 0"}, {"left 0 0", "left 0 -0"}, {"left 0 0", "left 00 0"}, {"left 0 0", "right 0 0"},
	} {
		changed := strings.Replace(rejectedText, x[0], x[1], 1)
		if changed == rejectedText {
			t.Fatal(x)
		}
		l = append(l, changed)
	}
	for _, x := range [][2]string{
		{"verdict allowed 3", "verdict allowed 2"}, {"verdict allowed 3", "verdict rejected 2"}, {"verdict allowed 3", "verdict ignored 3"}, {"8 ignored", "8 rejected"}, {"left 0 5", "left 0 -5"}, {"left 0 5", "left -1 5"},
		{"left 0 5", "left 0 05"}, {"left 0 5", "left 0 9223372036854775808"}, {"faults -", "faults"}, {"faults -", "faults connection:PROTOCOL_ERROR"}, {"faults -", "faults --"}, {"rules -", "rules first"}, {"rules -", "rules - -"}, {"rules -", "rules none"},
	} {
		l = append(l, strings.Replace(allowedText, x[0], x[1], 1))
	}
	for _, text := range l {
		if x, e := report.Read(text); e != api.ErrForm || !same(x, api.Report{}) {
			t.Errorf("%q: %+v, %v", text, x, e)
		}
	}
}

// What Read takes is just what Text writes: a text in which something was changed is another report's, or none's.
func TestP432Changed(t *testing.T) {
	random := rand.New(rand.NewSource(4320))
	const bytes = " 0123456789-+_:,\n%acdefilmnorstvwADGHINPRSTY"
	taken := 0
	for range 20000 {
		text, _ := report.Text(some(random))
		at, c := random.Intn(len(text)), string(bytes[random.Intn(len(bytes))])
		changed := [...]string{text[:at] + c + text[at+1:], text[:at] + c + text[at:], text[:at] + text[at+1:]}[random.Intn(3)]
		x, e := report.Read(changed)
		if e != api.OK {
			if e != api.ErrForm || !same(x, api.Report{}) {
				t.Fatalf("%q: %+v, %v", changed, x, e)
			}
			continue
		}
		taken++
		if s, e := report.Text(x); s != changed || e != api.OK {
			t.Fatalf("Read(%q): %+v, whose text is %q", changed, x, s)
		}
	}
	if taken < 500 {
		t.Error(taken)
	}
}

// Whatever comes of bytes is a report that is right.
func TestP432Oracle(t *testing.T) {
	random := rand.New(rand.NewSource(4321))
	frame := func(from, kind, stream int, b ...byte) api.Chunk {
		b, _ = head.Bytes(api.Raw{From: from, Type: kind, Stream: stream, Body: b})
		return api.Chunk{From: from, B: b}
	}
	count := map[int]int{}
	for range 1000 {
		c := conf()
		c.Pings = random.Intn(2)
		l := []api.Chunk{{B: preface.Text()}, frame(0, api.Settings, 0), frame(1, api.Settings, 0)}
		for range random.Intn(5) {
			from := random.Intn(2)
			l = append(l, [...]api.Chunk{frame(from, api.Ping, 0, make([]byte, 8)...), frame(from, 99, 7, 1, 2), frame(from, api.Priority, 3, 0, 0, 0, 0, 0), frame(from, api.Window, 0, 0, 0, 0, byte(random.Intn(2))), frame(from, random.Intn(10), random.Intn(2))}[random.Intn(5)])
		}
		l = append(l, api.Chunk{From: random.Intn(2), B: make([]byte, random.Intn(9))})
		x, e := oracle.Run(c, l)
		if e != api.OK || !report.Right(x) {
			t.Fatalf("%+v, %v", x, e)
		}
		count[x.Verdict]++
		s, _ := report.Text(x)
		if y, e := report.Read(s); e != api.OK || !report.Same(x, y) {
			t.Fatalf("%+v, not %+v: %v", y, x, e)
		}
	}
	if count[api.Allowed] < 100 || count[api.Rejected] < 100 || count[api.Limited] < 100 {
		t.Error("too few of a kind:", count)
	}
}

func TestP432Many(t *testing.T) {
	x := allowed()
	x.Records = nil
	for range 20000 {
		x.Records = append(x.Records, ping(1, 1))
	}
	x.At = len(x.Records)
	s, e := report.Text(x)
	if e != api.OK || strings.Count(s, "\n") != 20007 {
		t.Fatal(e)
	}
	if y, e := report.Read(s); e != api.OK || !same(x, y) {
		t.Fatal(e)
	}
}

func TestP433Same(t *testing.T) {
	spoils := []func(*api.Report){
		func(x *api.Report) { x.Config.Grace++ }, func(x *api.Report) { x.Config.Streams++ }, func(x *api.Report) { x.Config.Block++ }, func(x *api.Report) { x.Config.Queue++ }, func(x *api.Report) { x.Config.Pings++ }, func(x *api.Report) { x.Config.Table++ },
		func(x *api.Report) { x.Records = x.Records[1:] }, func(x *api.Report) { x.Records = append(x.Records, api.Record{}) }, func(x *api.Report) { x.Records[0], x.Records[1] = x.Records[1], x.Records[0] },
		func(x *api.Report) { x.Records[1].From++ }, func(x *api.Report) { x.Records[1].Type++ }, func(x *api.Report) { x.Records[1].Flags++ }, func(x *api.Report) { x.Records[1].Stream++ }, func(x *api.Report) { x.Records[1].Length++ }, func(x *api.Report) { x.Records[1].Kind++ },
		func(x *api.Report) { x.Verdict++ }, func(x *api.Report) { x.At++ }, func(x *api.Report) { x.Left[0]++ }, func(x *api.Report) { x.Left[1]-- },
		func(x *api.Report) { x.Faults = append(x.Faults, api.Fault{}) }, func(x *api.Report) { x.Rules = append(x.Rules, 0) },
	}
	reports := append(all(), api.Report{}, api.Report{Records: []api.Record{{From: 1}, {}}, Faults: []api.Fault{{Scope: 9}, {}, {}}, Rules: []int{-1, 99, -1}, Verdict: -1, At: -7, Left: [2]int{-1, -1}})
	for _, x := range reports {
		if !report.Same(x, copied(x)) {
			t.Errorf("%+v", x)
		}
		for i, spoil := range spoils {
			if len(x.Records) < 2 && i >= 6 && i <= 14 {
				continue
			}
			y := copied(x)
			spoil(&y)
			if report.Same(x, y) || report.Same(y, x) {
				t.Errorf("%d: %+v, %+v", i, x, y)
			}
		}
	}
	for _, spoil := range []func(*api.Report){
		func(x *api.Report) { x.Faults = x.Faults[1:] }, func(x *api.Report) { x.Rules = x.Rules[:1] }, func(x *api.Report) { slices.Reverse(x.Faults) }, func(x *api.Report) { slices.Reverse(x.Rules) },
		func(x *api.Report) { x.Faults[0].Scope++ }, func(x *api.Report) { x.Faults[1].Code++ }, func(x *api.Report) { x.Rules[1]++ },
	} {
		x, y := rejected(), rejected()
		spoil(&y)
		if report.Same(x, y) || report.Same(y, x) {
			t.Errorf("%+v, %+v", x, y)
		}
	}
	// A list that is nil is an empty one.
	if a, b := (api.Report{At: 5}), (api.Report{At: 5, Records: []api.Record{}, Faults: []api.Fault{}, Rules: []int{}}); !report.Same(a, b) || !report.Same(b, a) {
		t.Error(a, b)
	}
}

// What is read shares no memory with another reading.
func TestP432Memory(t *testing.T) {
	x, _ := report.Read(rejectedText)
	y, _ := report.Read(rejectedText)
	clear(x.Records)
	clear(x.Faults)
	clear(x.Rules)
	if !same(y, rejected()) {
		t.Error(y)
	}
}

package record_test

import (
	"math"
	"math/rand"
	"strconv"
	"strings"
	"testing"

	"stickler/api"
	"stickler/kinds"
	"stickler/record"
)

func preface() api.Record {
	return api.Record{Type: api.Preface, Length: 24, Kind: api.Allowed}
}

// right is a record that has the greatest numbers, or the least.
func right(great bool) api.Record {
	if great {
		return api.Record{From: 1, Type: 255, Flags: 255, Stream: 1<<31 - 1, Length: 1<<24 - 1, Kind: 4}
	}
	return api.Record{Kind: 1}
}

// some is a record that is right.
func some(random *rand.Rand) api.Record {
	kind := 1 + random.Intn(4)
	if random.Intn(8) == 0 {
		x := preface()
		x.Kind = kind
		return x
	}
	of := func(most int) int {
		return [...]int{0, most, random.Intn(most + 1), random.Intn(min(most, 10) + 1)}[random.Intn(4)]
	}
	return api.Record{From: random.Intn(2), Type: of(255), Flags: of(255), Stream: of(1<<31 - 1), Length: of(1<<24 - 1), Kind: kind}
}

// wrong are records that are not right.
func wrong() []api.Record {
	var l []api.Record
	spoil := func(x api.Record, at func(*api.Record) *int, values ...int) {
		for _, n := range values {
			*at(&x) = n
			l = append(l, x)
		}
	}
	from := func(x *api.Record) *int { return &x.From }
	kind := func(x *api.Record) *int { return &x.Kind }
	flags := func(x *api.Record) *int { return &x.Flags }
	stream := func(x *api.Record) *int { return &x.Stream }
	length := func(x *api.Record) *int { return &x.Length }
	typ := func(x *api.Record) *int { return &x.Type }
	for _, great := range []bool{false, true} {
		spoil(right(great), from, -1, 2, math.MinInt, math.MaxInt)
		spoil(right(great), kind, -1, 0, 5, math.MinInt, math.MaxInt)
		spoil(right(great), typ, -2, 256, math.MinInt, math.MaxInt)
		spoil(right(great), flags, -1, 256, math.MinInt, math.MaxInt)
		spoil(right(great), stream, -1, 1<<31, math.MinInt, math.MaxInt)
		spoil(right(great), length, -1, 1<<24, math.MinInt, math.MaxInt)
	}
	spoil(preface(), from, -1, 1, 2)
	spoil(preface(), kind, 0, 5, -1)
	spoil(preface(), flags, -1, 1, 255)
	spoil(preface(), stream, -1, 1)
	spoil(preface(), length, 0, 23, 25, -24)
	spoil(preface(), typ, -2, 256)
	return append(l, api.Record{}, api.Record{Type: api.Preface, Kind: 1})
}

func TestP411Of(t *testing.T) {
	body := []byte{1, 2, 3}
	for _, x := range []struct {
		r    api.Raw
		o    api.Outcome
		want api.Record
	}{
		{api.Raw{}, api.Outcome{}, api.Record{}},
		{api.Raw{From: 1, Type: 2, Flags: 3, Stream: 4, Res: true, Body: body}, api.Outcome{Kind: 2, Fields: []api.Field{{Name: "a"}}}, api.Record{From: 1, Type: 2, Flags: 3, Stream: 4, Length: 3, Kind: 2}},
		{api.Raw{Type: -1, Body: make([]byte, 24)}, api.Outcome{Kind: 1}, preface()},
		{api.Raw{From: -7, Type: 999, Flags: -1, Stream: math.MaxInt, Body: make([]byte, 1<<24)}, api.Outcome{Kind: -3}, api.Record{From: -7, Type: 999, Flags: -1, Stream: math.MaxInt, Length: 1 << 24, Kind: -3}},
		{api.Raw{Type: 6, Body: make([]byte, 7)}, api.Outcome{Kind: 3, Rules: []int{5}, Faults: []api.Fault{{Scope: 2, Code: 6}}}, api.Record{Type: 6, Length: 7, Kind: 3}},
	} {
		if got := record.Of(x.r, x.o); got != x.want {
			t.Errorf("%+v, not %+v", got, x.want)
		}
	}
	if body[0] != 1 || body[1] != 2 || body[2] != 3 {
		t.Error(body)
	}
}

func TestP411Right(t *testing.T) {
	for _, x := range []api.Record{right(false), right(true), preface(), {From: 1, Type: 6, Kind: 3}, {Type: 0, Length: 24, Kind: 2}} {
		for kind := 1; kind <= 4; kind++ {
			if x.Kind = kind; !record.Right(x) {
				t.Errorf("%+v", x)
			}
		}
	}
	for _, x := range wrong() {
		if record.Right(x) {
			t.Errorf("%+v", x)
		}
	}
	random := rand.New(rand.NewSource(411))
	for range 1000 {
		if x := some(random); !record.Right(x) {
			t.Errorf("%+v", x)
		}
	}
}

func TestP412Names(t *testing.T) {
	for n, name := range map[int]string{0: "client", 1: "server", 2: "", -1: "", math.MinInt: "", math.MaxInt: "", 256: "", 1 << 32: ""} {
		if s := record.Side(n); s != name {
			t.Errorf("Side(%d): %q", n, s)
		}
	}
	for n, name := range map[int]string{0: "", 1: "allowed", 2: "ignored", 3: "rejected", 4: "limited", 5: "", -1: "", math.MinInt: "", math.MaxInt: "", 257: "", 1<<32 + 1: ""} {
		if s := record.Kind(n); s != name {
			t.Errorf("Kind(%d): %q", n, s)
		}
	}
}

var lines = map[string]api.Record{
	"frame client HEADERS 5 1 12 allowed":                     {Type: 1, Flags: 5, Stream: 1, Length: 12, Kind: 1},
	"frame client PREFACE 0 0 24 rejected":                    {Type: -1, Length: 24, Kind: 3},
	"frame server DATA 0 0 0 ignored":                         {From: 1, Kind: 2},
	"frame server TYPE_255 255 2147483647 16777215 limited":   {From: 1, Type: 255, Flags: 255, Stream: 1<<31 - 1, Length: 1<<24 - 1, Kind: 4},
	"frame client TYPE_10 1 2 3 ignored":                      {Type: 10, Flags: 1, Stream: 2, Length: 3, Kind: 2},
	"frame server WINDOW_UPDATE 0 0 4 allowed":                {From: 1, Type: 8, Length: 4, Kind: 1},
	"frame client PRIORITY 0 2147483647 5 ignored":            {Type: 2, Stream: 1<<31 - 1, Length: 5, Kind: 2},
	"frame server RST_STREAM 9 7 10 rejected":                 {From: 1, Type: 3, Flags: 9, Stream: 7, Length: 10, Kind: 3},
	"frame client SETTINGS 1 0 0 allowed":                     {Type: 4, Flags: 1, Kind: 1},
	"frame server PUSH_PROMISE 4 1 100 limited":               {From: 1, Type: 5, Flags: 4, Stream: 1, Length: 100, Kind: 4},
	"frame server PING 0 0 8 allowed":                         {From: 1, Type: 6, Length: 8, Kind: 1},
	"frame client GOAWAY 0 0 8 allowed":                       {Type: 7, Length: 8, Kind: 1},
	"frame client CONTINUATION 4 2147483646 16777214 allowed": {Type: 9, Flags: 4, Stream: 1<<31 - 2, Length: 1<<24 - 2, Kind: 1},
}

func TestP413Lines(t *testing.T) {
	for line, x := range lines {
		if s, e := record.Text(x); s != line || e != api.OK {
			t.Errorf("Text(%+v): %q, %v", x, s, e)
		}
		if got, is := record.Read(line); got != x || !is {
			t.Errorf("Read(%q): %+v, %v", line, got, is)
		}
	}
}

// written is a record's line, by the document's words.
func written(x api.Record) string {
	side := []string{"client", "server"}[x.From]
	kind := []string{"", "allowed", "ignored", "rejected", "limited"}[x.Kind]
	return strings.Join([]string{"frame", side, kinds.Name(x.Type), strconv.Itoa(x.Flags), strconv.Itoa(x.Stream), strconv.Itoa(x.Length), kind}, " ")
}

func TestP413ThereAndBack(t *testing.T) {
	random := rand.New(rand.NewSource(413))
	for range 5000 {
		x := some(random)
		s, e := record.Text(x)
		if s != written(x) || e != api.OK {
			t.Fatalf("Text(%+v): %q, %v", x, s, e)
		}
		if got, is := record.Read(s); got != x || !is {
			t.Fatalf("Read(%q): %+v, %v", s, got, is)
		}
	}
}

func TestP413Wrong(t *testing.T) {
	for _, x := range wrong() {
		if s, e := record.Text(x); s != "" || e != api.ErrArg {
			t.Errorf("Text(%+v): %q, %v", x, s, e)
		}
	}
	for _, s := range []string{
		"", " ", "frame", "frame client DATA 0 0 0 allowed ", " frame client DATA 0 0 0 allowed", "frame  client DATA 0 0 0 allowed",
		"frame client DATA 0 0 0 allowed\n", "frame client DATA 0 0 0 allowed\x00", "frame client DATA 0 0 0", "frame client DATA 0 0 0 allowed 0",
		"frames client DATA 0 0 0 allowed", "Frame client DATA 0 0 0 allowed", "client DATA 0 0 0 allowed", "frame Client DATA 0 0 0 allowed",
		"frame 0 DATA 0 0 0 allowed", "frame client 0 0 0 0 allowed", "frame client data 0 0 0 allowed", "frame client TYPE_9 0 0 0 allowed",
		"frame client TYPE_010 0 0 0 allowed", "frame client TYPE_256 0 0 0 allowed", "frame client DATA 00 0 0 allowed", "frame client DATA -0 0 0 allowed",
		"frame client DATA +1 0 0 allowed", "frame client DATA 0 -1 0 allowed", "frame client DATA 0 0 01 allowed", "frame client DATA 0x1 0 0 allowed",
		"frame client DATA 256 0 0 allowed", "frame client DATA 0 2147483648 0 allowed", "frame client DATA 0 0 16777216 allowed", "frame client DATA 0 0 0 1",
		"frame client DATA 0 0 0 Allowed", "frame client DATA 0 0 0 none", "frame client DATA 99999999999999999999 0 0 allowed", "frame client DATA  0 0 allowed",
		"frame server PREFACE 0 0 24 allowed", "frame client PREFACE 1 0 24 allowed", "frame client PREFACE 0 1 24 allowed", "frame client PREFACE 0 0 23 allowed", "frame client PREFACE 0 0 0 allowed",
		"frame\tclient\tDATA\t0\t0\t0\tallowed", "frame client DATA 0 0 0 allowed\nframe client DATA 0 0 0 allowed", "allowed client DATA 0 0 0 frame", "frame client DATA 0 0 allowed 0", "\xff\xfe",
	} {
		if x, is := record.Read(s); is || x != (api.Record{}) {
			t.Errorf("Read(%q): %+v, %v", s, x, is)
		}
	}
}

// What Read takes is just what Text writes: a line in which something was changed is another record's, or none's.
func TestP413Changed(t *testing.T) {
	random := rand.New(rand.NewSource(4130))
	const bytes = " 0123456789-+_\n%acdefilmnorstvwADGHINPRSTY"
	taken := 0
	for range 20000 {
		line := written(some(random))
		at, c := random.Intn(len(line)), string(bytes[random.Intn(len(bytes))])
		changed := [...]string{line[:at] + c + line[at+1:], line[:at] + c + line[at:], line[:at] + line[at+1:]}[random.Intn(3)]
		x, is := record.Read(changed)
		if !is {
			if x != (api.Record{}) {
				t.Fatalf("%q: %+v", changed, x)
			}
			continue
		}
		taken++
		if s, e := record.Text(x); s != changed || e != api.OK {
			t.Fatalf("Read(%q): %+v, whose line is %q", changed, x, s)
		}
	}
	if taken < 500 {
		t.Error(taken)
	}
}

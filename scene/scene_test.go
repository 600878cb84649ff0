package scene_test

import (
	"math"
	"math/rand"
	"slices"
	"strings"
	"testing"

	"stickler/api"
	"stickler/scene"
	"stickler/spec"
)

const most = 1<<31 - 1

func full() spec.Scenario {
	s := spec.New(api.Server)
	for _, x := range []spec.Step{
		{Kind: spec.Headers, Stream: 1, End: true, Fields: []api.Field{{Name: ":method", Value: "GET"}, {Name: "a b", Value: "", Never: true}, {Value: "%\n\xff"}}},
		{Kind: spec.Headers, Stream: most},
		{Kind: spec.Data, Stream: 2, N: 16384},
		{Kind: spec.Data, Stream: 2, End: true},
		{Kind: spec.Set},
		{Kind: spec.Set, Settings: []api.Setting{{Id: 65535, Value: 1<<32 - 1}, {}}},
		{Kind: spec.Grow, N: most},
		{Kind: spec.Cut, Stream: 5, N: 1<<32 - 1},
		{Kind: spec.Call, N: 255},
		{Kind: spec.Leave},
		{Kind: spec.Wait, N: 16},
	} {
		s = s.With(x)
	}
	return s.Ending(spec.Wrong{Kind: 26, Stream: most})
}

const fullText = `scenario server
headers 1 end + :method GET ! a%20b % + % %25%0a%ff
headers 2147483647 open
data 2 16384 open
data 2 0 end
set
set 65535 4294967295 0 0
grow 0 2147483647
cut 5 4294967295
call 255
leave 0
wait 16
wrong ack 2147483647
`

const leastText = "scenario client\nwrong pad 1\n"

func TestP51Text(t *testing.T) {
	for _, x := range []struct {
		s    spec.Scenario
		text string
	}{{full(), fullText}, {spec.New(api.Client), leastText}} {
		if text, e := scene.Text(x.s); text != x.text || e != api.OK {
			t.Error(text, e)
		}
		if s, e := scene.Read(x.text); !spec.Same(s, x.s) || e != api.OK {
			t.Error(s, e)
		}
	}
}

func TestP51TextOfNone(t *testing.T) {
	good := full()
	for _, s := range []spec.Scenario{{}, {Side: 2, Wrong: good.Wrong}, good.Ending(spec.Wrong{Kind: 27, Stream: 1}), good.Ending(spec.Wrong{Kind: 1}), good.With(spec.Step{}), good.With(spec.Step{Kind: -1}), good.With(spec.Step{Kind: math.MaxInt}), good.With(spec.Step{Kind: spec.Call, Stream: 1}), good.With(spec.Step{Kind: spec.Wait, N: 16}).With(spec.Step{Kind: spec.Wait, N: 9})} {
		if text, e := scene.Text(s); text != "" || e != api.ErrArg {
			t.Error(s, text, e)
		}
	}
}

// wrong are texts of no right scenario, each of them not far from one's.
func wrong() []string {
	l := []string{"", "\n", "\n\n", "scenario client\n", "wrong pad 1\n", "scenario client\nwrong pad 1", "scenario client\nwrong pad 1\n\n", "\nscenario client\nwrong pad 1\n",
		"scenario client\n\nwrong pad 1\n", "scenario client\r\nwrong pad 1\n", "wrong pad 1\nscenario client\n", "scenario client\nwrong pad 1\nwrong pad 1\n", "scenario client\nscenario client\nwrong pad 1\n",
		"scenario client 1\nwrong pad 1\n", "scenario\nwrong pad 1\n", "scenario Client\nwrong pad 1\n", "scenario both\nwrong pad 1\n", "scenario 0\nwrong pad 1\n", "Scenario client\nwrong pad 1\n",
		"scenario  client\nwrong pad 1\n", " scenario client\nwrong pad 1\n", "scenario client \nwrong pad 1\n", "scenario client\twrong pad 1\n"}
	for _, end := range []string{"wrong pad", "wrong", "wrong pad 0", "wrong pad 01", "wrong pad +1", "wrong pad -1", "wrong pad 2147483648", "wrong pad 99999999999999999999", "wrong pads 1", "wrong 1 1", "wrong pad 1 1", "wrong pad one", "wrong  1", "Wrong pad 1"} {
		l = append(l, "scenario client\n"+end+"\n")
	}
	for _, step := range []string{
		"", " ", "head 1 end", "HEADERS 1 end", "headers", "headers 1", "headers 1 ends", "headers 0 end", "headers 2147483648 end", "headers 1 end +", "headers 1 end + a", "headers 1 end + a b +", "headers 1 end - a b",
		"headers 1 end + a b ", "headers 1 end + a  b", "headers 1 end + a %6", "headers 1 end + a %61", "headers 1 end + a %2G", "headers 1 end + a %2A", "headers 1 end + a %FF", "headers 1 end + a %%", "headers 1 end + a b\x00", "headers 1 end + a ü", "headers 1 0 end", "headers end 1",
		"headers 1 end + " + strings.Repeat("a", 201) + " b", "headers 1 end" + strings.Repeat(" + a b", 21),
		"data 1 0", "data 1 end", "data 0 1 end", "data 1 16385 open", "data 1 -1 open", "data 1 00 open", "data 1 1 open 1", "data 1 1 End",
		"set 1", "set 1 2 3", "set 65536 1", "set 1 4294967296", "set -1 1", "set a 1", "set 1 2 ", "set" + strings.Repeat(" 1 1", 11),
		"grow 1", "grow 1 0", "grow 2147483648 1", "grow 1 2147483648", "grow 1 1 1", "grow",
		"cut 1", "cut 0 1", "cut 1 4294967296", "cut 1 -1", "cut 1 1 1",
		"call", "call 256", "call -1", "call 1 1", "leave", "leave 2147483648", "leave 1 1", "wait", "wait 17", "wait -1", "wait 1 1", "wait 007", "wait -0",
		"8 1", "wait 16\nwait 16\nwait 9", strings.Repeat("call 1\n", 20) + "call 1",
	} {
		l = append(l, "scenario client\n"+step+"\nwrong pad 1\n")
	}
	return l
}

func TestP51ReadOfNone(t *testing.T) {
	for _, text := range wrong() {
		if s, e := scene.Read(text); e != api.ErrForm || !spec.Same(s, spec.Scenario{}) {
			t.Errorf("%q: %v, %v", text, s, e)
		}
	}
}

// TestP51ReadIsOfOneText: each change of a text makes it another scenario's, or none's.
func TestP51ReadIsOfOneText(t *testing.T) {
	random := rand.New(rand.NewSource(51))
	for range 20000 {
		b := []byte(fullText)
		at := random.Intn(len(b))
		switch random.Intn(3) {
		case 0:
			b[at] = " \n019+!%-aoe"[random.Intn(12)]
		case 1:
			b = slices.Insert(b, at, " \n019+!%-aoe"[random.Intn(12)])
		case 2:
			b = slices.Delete(b, at, at+1)
		}
		text := string(b)
		s, e := scene.Read(text)
		if e != api.OK && (e != api.ErrForm || !spec.Same(s, spec.Scenario{})) {
			t.Fatalf("%q: %v", text, e)
		}
		if e == api.OK && (spec.Same(s, full()) != (text == fullText) || !spec.Right(s)) {
			t.Fatalf("%q: %v", text, s)
		}
		if again, f := scene.Text(s); e == api.OK && (again != text || f != api.OK) {
			t.Fatalf("%q: %q", text, again)
		}
	}
}

func someText(random *rand.Rand, most int) string {
	b := make([]byte, random.Intn(most+1))
	for i := range b {
		b[i] = byte(random.Intn(256))
	}
	return string(b)
}

func someStep(random *rand.Rand) spec.Step {
	stream, end := 1+random.Intn(most), random.Intn(2) == 0
	x := []spec.Step{{Kind: spec.Headers, Stream: stream, End: end}, {Kind: spec.Data, Stream: stream, N: random.Intn(16385), End: end}, {Kind: spec.Set}, {Kind: spec.Grow, Stream: stream - 1, N: 1 + random.Intn(most)},
		{Kind: spec.Cut, Stream: stream, N: random.Intn(1 << 32)}, {Kind: spec.Call, N: random.Intn(256)}, {Kind: spec.Leave, N: random.Intn(1 << 31)}, {Kind: spec.Wait, N: random.Intn(3)}}[random.Intn(8)]
	for range random.Intn(11) {
		switch x.Kind {
		case spec.Headers:
			x.Fields = append(x.Fields, api.Field{Name: someText(random, 5), Value: someText(random, 200), Never: random.Intn(2) == 0})
		case spec.Set:
			x.Settings = append(x.Settings, api.Setting{Id: random.Intn(65536), Value: random.Intn(1 << 32)})
		}
	}
	return x
}

func TestP51ThereAndBack(t *testing.T) {
	random := rand.New(rand.NewSource(511))
	for range 500 {
		s := spec.New(random.Intn(2)).Ending(spec.Wrong{Kind: 1 + random.Intn(26), Stream: 1 + random.Intn(most)})
		for range random.Intn(21) {
			s = s.With(someStep(random))
		}
		text, e := scene.Text(s)
		if e != api.OK {
			t.Fatal(s, e)
		}
		if again, e := scene.Read(text); e != api.OK || !spec.Same(s, again) {
			t.Fatalf("%q: %v, %v", text, again, e)
		}
	}
}

package oracle_test

import (
	"bytes"
	"math/rand"
	"slices"
	"testing"

	"stickler/api"
	"stickler/encoder"
	"stickler/head"
	"stickler/octet"
	"stickler/oracle"
	"stickler/preface"
	"stickler/rules"
	"stickler/setting"
)

const (
	client = api.Client
	server = api.Server
	end    = api.FlagEnd
	whole  = api.FlagBlock
)

func conf() api.Config {
	return api.Config{Grace: 1, Streams: 9, Block: 1000, Queue: 3, Pings: 3, Table: 8000}
}

func raw(from, kind, flags, stream int, body ...byte) api.Raw {
	return api.Raw{From: from, Type: kind, Flags: flags, Stream: stream, Body: body}
}

func number(n int) []byte {
	b, _ := octet.Put(nil, n, 4)
	return b
}

func sets(from int, l ...api.Setting) api.Raw {
	b, _ := setting.Put(l)
	return raw(from, api.Settings, 0, 0, b...)
}

func ping(from int) api.Raw { return raw(from, api.Ping, 0, 0, make([]byte, 8)...) }

func data(from, stream, n, flags int) api.Raw {
	return raw(from, api.Data, flags, stream, make([]byte, n)...)
}

func reset(from, stream int) api.Raw {
	return raw(from, api.Reset, 0, stream, number(api.Cancel)...)
}

func block(l ...api.Field) []byte {
	c, _ := encoder.New(0)
	b, _ := c.Encode(nil, l, []encoder.Option{{Way: 2}})
	return b
}

func get(stream, flags int) api.Raw {
	return raw(client, api.Headers, whole|flags, stream, block(api.Field{Name: ":method", Value: "GET"}, api.Field{Name: ":scheme", Value: "http"}, api.Field{Name: ":path", Value: "/"})...)
}

func status(stream, flags int) api.Raw {
	return raw(server, api.Headers, whole|flags, stream, block(api.Field{Name: ":status", Value: "200"})...)
}

// begin are the frames with which both sides begin, and others behind.
func begin(l ...api.Raw) []api.Raw {
	return append([]api.Raw{{Type: api.Preface, Body: preface.Text()}, sets(client), sets(server)}, l...)
}

func wire(r api.Raw) []byte {
	b, _ := head.Bytes(r)
	return b
}

// pieces are frames, each in a piece of its own.
func pieces(l []api.Raw) []api.Chunk {
	var all []api.Chunk
	for _, r := range l {
		all = append(all, api.Chunk{From: r.From, B: wire(r)})
	}
	return all
}

func run(t *testing.T, c api.Config, l []api.Chunk) api.Report {
	t.Helper()
	x, e := oracle.Run(c, l)
	if e != api.OK {
		t.Fatal(e)
	}
	return x
}

func same(a, b api.Report) bool {
	return a.Config == b.Config && slices.Equal(a.Records, b.Records) && a.Verdict == b.Verdict && a.At == b.At &&
		slices.Equal(a.Faults, b.Faults) && slices.Equal(a.Rules, b.Rules) && a.Left == b.Left
}

// some is a frame that may be allowed or not.
func some(random *rand.Rand) api.Raw {
	of := func(l ...int) int { return l[random.Intn(len(l))] }
	from, stream := random.Intn(2), of(1, 1, 3, 3, 5)
	switch random.Intn(14) {
	case 0:
		return sets(from, api.Setting{Id: api.SetFrame, Value: of(16384, 20000)})
	case 1, 2:
		return raw(from, api.Settings, api.FlagAck, 0)
	case 3, 4, 5:
		return get(of(1, 3, 5, 7), of(0, 0, end))
	case 6:
		return status(stream, of(0, 0, end))
	case 7:
		return reset(from, stream)
	case 8, 9:
		return data(from, stream, of(0, 1, 40), of(0, 0, 0, end))
	case 10:
		return raw(from, of(10, 77, 255), random.Intn(256), random.Intn(5), make([]byte, of(0, 1, 300, 17000))...)
	case 11:
		r := ping(from)
		r.Flags = of(0, api.FlagAck)
		return r
	case 12:
		r := raw(from, api.Headers, 0, stream, 0x88)
		if from == client {
			r = get(of(5, 7), 0)
			r.Flags = 0
		}
		return r
	}
	return raw(from, api.Continue, of(0, whole), stream)
}

// garbage is some bytes of either side.
func garbage(random *rand.Rand) api.Chunk {
	b := make([]byte, random.Intn(40))
	random.Read(b)
	return api.Chunk{From: random.Intn(2), B: b}
}

// shuffled are the bytes of frames, and rest behind them, in pieces of any size, such that the frames end in their order: bytes of frames that end later may come earlier.
func shuffled(random *rand.Rand, l []api.Raw, rest [2][]byte) []api.Chunk {
	var left [2][]byte
	var lengths [2][]int // of the frames that have not ended, how many bytes are left up to the end of each
	for _, r := range l {
		left[r.From] = append(left[r.From], wire(r)...)
		lengths[r.From] = append(lengths[r.From], len(left[r.From]))
	}
	left[0], left[1] = append(left[0], rest[0]...), append(left[1], rest[1]...)
	ended := 0
	var all []api.Chunk
	most := [...]int{1, 3, 20, 1000}[random.Intn(4)]
	for len(left[0])+len(left[1]) > 0 {
		side := random.Intn(2)
		// As many bytes may come as end just the frames of this side that are the next ones.
		may, count := 0, 0
		for ended+count < len(l) && l[ended+count].From == side {
			may = lengths[side][count]
			count++
		}
		switch {
		case count < len(lengths[side]):
			may = lengths[side][count] - 1
		default:
			may = len(left[side])
		}
		n := min(may, random.Intn(most+1))
		all = append(all, api.Chunk{From: side, B: bytes.Clone(left[side][:n])})
		left[side] = left[side][n:]
		for i := range lengths[side] {
			lengths[side][i] -= n
		}
		for len(lengths[side]) > 0 && lengths[side][0] <= 0 {
			lengths[side] = lengths[side][1:]
			ended++
		}
	}
	return all
}

// rejects says at which of some frames it is over, and why.
func rejects(t *testing.T, c api.Config, at int, broken string, faults []api.Fault, l []api.Raw) {
	t.Helper()
	x := run(t, c, pieces(l))
	if x.Verdict != api.Rejected || x.At != at || len(x.Records) != at+1 || rules.Show(x.Rules) != broken || !slices.Equal(x.Faults, faults) || x.Left != [2]int{} {
		t.Errorf("%+v", x)
	}
}

func conn(code int) api.Fault   { return api.Fault{Scope: api.OfConn, Code: code} }
func stream(code int) api.Fault { return api.Fault{Scope: api.OfStream, Code: code} }

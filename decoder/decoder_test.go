package decoder_test

import (
	"bytes"
	"encoding/hex"
	"math"
	"math/rand"
	"slices"
	"strings"
	"testing"

	"stickler/api"
	"stickler/decoder"
	"stickler/repr"
	"stickler/static"
	"stickler/strlit"
)

var (
	get    = [][2]string{{":method", "GET"}, {":scheme", "http"}, {":path", "/"}, {":authority", "www.example.com"}}
	again  = [][2]string{{":method", "GET"}, {":scheme", "http"}, {":path", "/"}, {":authority", "www.example.com"}, {"cache-control", "no-cache"}}
	other  = [][2]string{{":method", "GET"}, {":scheme", "https"}, {":path", "/index.html"}, {":authority", "www.example.com"}, {"custom-key", "custom-value"}}
	moved  = [][2]string{{":status", "302"}, {"cache-control", "private"}, {"date", "Mon, 21 Oct 2013 20:13:21 GMT"}, {"location", "https://www.example.com"}}
	moved7 = [][2]string{{":status", "307"}, {"cache-control", "private"}, {"date", "Mon, 21 Oct 2013 20:13:21 GMT"}, {"location", "https://www.example.com"}}
	found  = [][2]string{{":status", "200"}, {"cache-control", "private"}, {"date", "Mon, 21 Oct 2013 20:13:22 GMT"}, {"location", "https://www.example.com"}, {"content-encoding", "gzip"}, {"set-cookie", "foo=ASDJKHQKBZXOQWEOPIUAXQWEOIU; max-age=3600; version=1"}}
)

func fields(l [][2]string) []api.Field {
	var all []api.Field
	for _, f := range l {
		all = append(all, api.Field{Name: f[0], Value: f[1]})
	}
	return all
}

// talk is blocks that follow each other on one table, from the standard: what they say, and the table's weights then.
type talk struct {
	max    int
	blocks []said
}

type said struct {
	bytes  string
	fields [][2]string
	size   int
}

var talks = []talk{
	{4096, []said{
		{"828684410f7777772e6578616d706c652e636f6d", get, 57},
		{"828684be58086e6f2d6361636865", again, 110},
		{"828785bf400a637573746f6d2d6b65790c637573746f6d2d76616c7565", other, 164},
	}},
	{4096, []said{
		{"828684418cf1e3c2e5f23a6ba0ab90f4ff", get, 57},
		{"828684be5886a8eb10649cbf", again, 110},
		{"828785bf408825a849e95ba97d7f8925a849e95bb8e8b4bf", other, 164},
	}},
	{256, []said{
		{"4803333032580770726976617465611d4d6f6e2c203231204f637420323031332032303a31333a323120474d546e1768747470733a2f2f7777772e6578616d706c652e636f6d", moved, 222},
		{"4803333037c1c0bf", moved7, 222},
		{"88c1611d4d6f6e2c203231204f637420323031332032303a31333a323220474d54c05a04677a69707738666f6f3d4153444a4b48514b425a584f5157454f50495541585157454f49553b206d61782d6167653d333630303b2076657273696f6e3d31", found, 215},
	}},
	{256, []said{
		{"488264025885aec3771a4b6196d07abe941054d444a8200595040b8166e082a62d1bff6e919d29ad171863c78f0b97c8e9ae82ae43d3", moved, 222},
		{"4883640effc1c0bf", moved7, 222},
		{"88c16196d07abe941054d444a8200595040b8166e084a62d1bffc05a839bd9ab77ad94e7821dd7f2e6c7b335dfdfcd5b3960d5af27087f3672c1ab270fb5291f9587316065c003ed4ee5b1063d5007", found, 215},
	}},
}

// model is a decoder by the document's words; its table has the newest first.
type model struct {
	l   []api.Field
	max int
}

func weights(l []api.Field) int {
	n := 0
	for _, f := range l {
		n += len(f.Name) + len(f.Value) + 32
	}
	return n
}

func (m *model) cut() {
	for weights(m.l) > m.max {
		m.l = m.l[:len(m.l)-1]
	}
}

func (m *model) at(place int) (api.Field, bool) {
	if place <= 61 {
		return static.At(place)
	}
	if place-62 >= len(m.l) {
		return api.Field{}, false
	}
	return m.l[place-62], true
}

func (m *model) decode(b []byte) (decoder.Block, api.Errno) {
	n := model{slices.Clone(m.l), m.max}
	var got decoder.Block
	for len(b) > 0 {
		r, k, e := repr.Get(b)
		if e != api.OK {
			return decoder.Block{}, e
		}
		b = b[k:]
		if r.Kind == repr.Resize {
			if len(got.Fields) > 0 {
				return decoder.Block{}, api.ErrUpdate
			}
			got.Sizes = append(got.Sizes, r.Size)
			n.max = r.Size
			n.cut()
			continue
		}
		f := api.Field{Name: r.Name.S, Value: r.Value.S}
		if r.Index > 0 {
			there, ok := n.at(r.Index)
			if !ok {
				return decoder.Block{}, api.ErrIndex
			}
			f.Name = there.Name
			if r.Kind == repr.Indexed {
				f.Value = there.Value
			}
		}
		if r.Kind == repr.Added {
			n.l = append([]api.Field{f}, n.l...)
			n.cut()
		}
		f.Never = r.Kind == repr.Never
		got.Fields = append(got.Fields, f)
	}
	*m = n
	return got, api.OK
}

func made(t *testing.T, max int) *decoder.Decoder {
	t.Helper()
	d, e := decoder.New(max)
	if d == nil || e != api.OK {
		t.Fatal(max, e)
	}
	return d
}

func sameTable(t *testing.T, d *decoder.Decoder, m *model) {
	t.Helper()
	if d.Max() != m.max || d.Size() != weights(m.l) || !slices.Equal(d.All(), m.l) {
		t.Fatalf("the table has max %d, size %d, %v; want %d, %d, %v", d.Max(), d.Size(), d.All(), m.max, weights(m.l), m.l)
	}
}

func sameBlock(t *testing.T, got, want decoder.Block) {
	t.Helper()
	if !slices.Equal(got.Fields, want.Fields) || !slices.Equal(got.Sizes, want.Sizes) {
		t.Fatalf("got %v, want %v", got, want)
	}
}

// look decodes on both.
func look(t *testing.T, d *decoder.Decoder, m *model, b []byte) api.Errno {
	t.Helper()
	given := bytes.Clone(b)
	got, e := d.Decode(b)
	want, fault := m.decode(b)
	if e != fault {
		t.Fatalf("%x: %d, want %d", b, e, fault)
	}
	sameBlock(t, got, want)
	sameTable(t, d, m)
	if !bytes.Equal(b, given) {
		t.Fatal("Decode changes what it is given")
	}
	return e
}

func TestP231New(t *testing.T) {
	for _, max := range []int{0, 1, 4096, 1<<31 - 1} {
		sameTable(t, made(t, max), &model{max: max})
	}
	for _, max := range []int{math.MinInt, -1, 1 << 31, 1 << 32, math.MaxInt} {
		if d, e := decoder.New(max); d != nil || e != api.ErrArg {
			t.Errorf("New(%d): %v, %d", max, d, e)
		}
	}
}

func TestP232Known(t *testing.T) {
	for _, talk := range talks {
		d := made(t, talk.max)
		for _, s := range talk.blocks {
			b, err := hex.DecodeString(s.bytes)
			if err != nil {
				t.Fatal(err)
			}
			got, e := d.Decode(b)
			if e != api.OK || d.Size() != s.size {
				t.Fatal(s.bytes, e, d.Size())
			}
			sameBlock(t, got, decoder.Block{Fields: fields(s.fields)})
		}
	}
}

func TestP232Example(t *testing.T) {
	d := made(t, 100)
	ab := api.Field{Name: "a", Value: "b"}
	for _, b := range [][]byte{{64, 1, 97, 1, 98}, {190}} {
		got, e := d.Decode(b)
		if e != api.OK {
			t.Fatal(e)
		}
		sameBlock(t, got, decoder.Block{Fields: []api.Field{ab}})
		sameTable(t, d, &model{[]api.Field{ab}, 100})
	}
	if got, e := d.Decode([]byte{191}); e != api.ErrIndex || got.Fields != nil || got.Sizes != nil {
		t.Error(got, e)
	}
}

func block(l ...repr.Repr) []byte {
	var all []byte
	for _, r := range l {
		b, e := repr.Put(r)
		if e != api.OK {
			panic(e)
		}
		all = append(all, b...)
	}
	return all
}

func text(s string) strlit.Text {
	return strlit.Text{S: s, Short: len(s)%2 == 0}
}

func TestP232Kinds(t *testing.T) {
	d, m := made(t, 200), &model{max: 200}
	ok := func(b []byte, want ...api.Field) {
		t.Helper()
		if e := look(t, d, m, b); e != api.OK {
			t.Fatal(e)
		}
		got, _ := (&model{max: 0}).decode(b)
		if want != nil && !slices.Equal(got.Fields, want) {
			t.Fatalf("got %v, want %v", got.Fields, want)
		}
	}
	ok(nil)
	ok([]byte{})
	for place := 1; place <= 61; place++ {
		f, _ := static.At(place)
		ok(block(repr.Repr{Kind: repr.Indexed, Index: place}), f)
		for _, kind := range []int{repr.Added, repr.Plain, repr.Never} {
			ok(block(repr.Repr{Kind: kind, Index: place, Value: text("v")}), api.Field{Name: f.Name, Value: "v", Never: kind == repr.Never})
		}
	}
	for _, kind := range []int{repr.Plain, repr.Never, repr.Added} {
		ok(block(repr.Repr{Kind: kind, Name: text("n"), Value: text("vv")}), api.Field{Name: "n", Value: "vv", Never: kind == repr.Never})
	}
	for _, kind := range []int{repr.Plain, repr.Never, repr.Added} { // of what the table has: the name stays, when its field goes
		ok(block(repr.Repr{Kind: kind, Index: 62, Value: text(strings.Repeat("w", 150))}))
	}
	ok(block(repr.Repr{Kind: repr.Added, Index: 62, Value: text(strings.Repeat("w", 200))}))
	if d.Size() != 0 {
		t.Error("what is too great for the table leaves something in it")
	}
}

func TestP232NeverInTable(t *testing.T) {
	d := made(t, 200)
	if _, e := d.Decode(block(repr.Repr{Kind: repr.Never, Name: text("a"), Value: text("b")}, repr.Repr{Kind: repr.Plain, Name: text("a"), Value: text("b")})); e != api.OK || d.Size() != 0 {
		t.Error(e, d.All())
	}
	got, e := d.Decode(block(repr.Repr{Kind: repr.Added, Name: text("a"), Value: text("b")}, repr.Repr{Kind: repr.Never, Index: 62, Value: text("b")}, repr.Repr{Kind: repr.Indexed, Index: 62}))
	if e != api.OK || len(got.Fields) != 3 || got.Fields[0].Never || !got.Fields[1].Never || got.Fields[2].Never || d.Size() != 34 {
		t.Error(got, e)
	}
}

func TestP232Resize(t *testing.T) {
	d, m := made(t, 200), &model{max: 200}
	size := func(n int) repr.Repr { return repr.Repr{Kind: repr.Resize, Size: n} }
	add := func(name string) repr.Repr { return repr.Repr{Kind: repr.Added, Name: text(name), Value: text("v")} }
	for _, c := range []struct {
		b    []byte
		want api.Errno
	}{
		{block(add("a"), add("b"), add("c")), api.OK},
		{block(size(102)), api.OK},
		{block(size(101)), api.OK},
		{block(size(1<<31-1), size(5000)), api.OK},
		{block(size(40), size(300), add("d"), add("e")), api.OK},
		{block(size(68), size(68), size(67), repr.Repr{Kind: repr.Indexed, Index: 62}), api.OK},
		{block(size(0)), api.OK},
		{block(size(68), repr.Repr{Kind: repr.Indexed, Index: 62}), api.ErrIndex},
		{block(add("a"), size(0)), api.ErrUpdate},
		{block(repr.Repr{Kind: repr.Indexed, Index: 1}, size(4096)), api.ErrUpdate},
		{block(size(100), repr.Repr{Kind: repr.Never, Name: text("a")}, size(100)), api.ErrUpdate},
		{block(size(100), size(200), add("f")), api.OK},
		{append(block(size(7)), 63, 255, 255, 255, 255, 15), api.ErrRange},
	} {
		if e := look(t, d, m, c.b); e != c.want {
			t.Errorf("%x: %d, want %d", c.b, e, c.want)
		}
	}
}

func TestP232Faults(t *testing.T) {
	d, m := made(t, 200), &model{max: 200}
	look(t, d, m, block(repr.Repr{Kind: repr.Added, Name: text("a"), Value: text("v")}))
	ahead := block(repr.Repr{Kind: repr.Resize, Size: 70}, repr.Repr{Kind: repr.Added, Name: text("b"), Value: text("v")})
	for _, c := range []struct {
		b    []byte
		want api.Errno
	}{
		{[]byte{128}, api.ErrIndex},
		{[]byte{130, 128}, api.ErrIndex},
		{block(repr.Repr{Kind: repr.Indexed, Index: 64}), api.ErrIndex},
		{block(repr.Repr{Kind: repr.Added, Index: 64, Value: text("v")}), api.ErrIndex},
		{block(repr.Repr{Kind: repr.Plain, Index: 64, Value: text("v")}), api.ErrIndex},
		{block(repr.Repr{Kind: repr.Never, Index: 64, Value: text("v")}), api.ErrIndex},
		{block(repr.Repr{Kind: repr.Never, Index: 1<<31 - 1, Value: text("v")}), api.ErrIndex},
		{block(repr.Repr{Kind: repr.Indexed, Index: 1<<31 - 1}), api.ErrIndex},
		{[]byte{255}, api.ErrShort},
		{[]byte{64, 1, 97, 5}, api.ErrLong},
		{[]byte{64, 1, 97, 3, 98}, api.ErrShort},
		{[]byte{64, 129, 255, 0}, api.ErrPad},
		{[]byte{64, 132, 255, 255, 255, 255, 0}, api.ErrEnd},
		{[]byte{127, 255, 255, 255, 255, 127}, api.ErrRange},
		{[]byte{127, 3, 2, 97}, api.ErrShort}, // ahead of the place that there is not
		{[]byte{127, 3, 1, 97}, api.ErrIndex},
		{[]byte{130, 32}, api.ErrUpdate},
		{[]byte{130, 63}, api.ErrShort},
		{[]byte{130, 32, 128}, api.ErrUpdate},
		{[]byte{130, 128, 32}, api.ErrIndex},
	} {
		for _, b := range [][]byte{c.b, append(bytes.Clone(ahead), c.b...)} {
			if got, e := d.Decode(b); e != c.want || got.Fields != nil || got.Sizes != nil {
				t.Errorf("%v: %v, %d, want %d", b, got, e, c.want)
			}
			look(t, d, m, b)
		}
	}
	if d.Max() != 200 || d.Size() != 34 {
		t.Error("a fault has changed something: ", d.Max(), d.Size())
	}
}

func TestP233Nobody(t *testing.T) {
	var d *decoder.Decoder
	for _, b := range [][]byte{nil, {130}, {128}} {
		if got, e := d.Decode(b); e != api.ErrNil || got.Fields != nil || got.Sizes != nil {
			t.Error(got, e)
		}
	}
	if d.Max() != 0 || d.Size() != 0 || len(d.All()) != 0 {
		t.Error("nil has a table")
	}
	d, m := new(decoder.Decoder), &model{}
	sameTable(t, d, m)
	add := block(repr.Repr{Kind: repr.Added, Name: text("a"), Value: text("v")})
	look(t, d, m, add)
	look(t, d, m, []byte{190})
	look(t, d, m, append(block(repr.Repr{Kind: repr.Resize, Size: 100}), add...))
	look(t, d, m, []byte{190})
	if d.Max() != 100 || d.Size() != 34 {
		t.Error(d.Max(), d.Size())
	}
}

// anyBlock is a block, most of whose parts are right.
func anyBlock(r *rand.Rand, places int) []byte {
	var b []byte
	for i := range r.Intn(7) {
		p := repr.Repr{Kind: 1 + r.Intn(4), Index: r.Intn(places)}
		if i < 2 && r.Intn(3) == 0 || r.Intn(40) == 0 {
			p = repr.Repr{Kind: repr.Resize, Size: r.Intn(300)}
		} else if p.Kind == repr.Indexed {
			p.Index++
		} else {
			p.Value = text(strings.Repeat("v", r.Intn(5)))
			if p.Index == 0 {
				p.Name = text(strings.Repeat("n", r.Intn(40)))
			}
		}
		b = append(b, block(p)...)
	}
	if r.Intn(10) == 0 && len(b) > 0 {
		b[r.Intn(len(b))] ^= 1 << r.Intn(8)
	}
	return b
}

func TestP232Any(t *testing.T) {
	r := rand.New(rand.NewSource(232))
	right := 0
	for range 1000 {
		max := r.Intn(300)
		d, m := made(t, max), &model{max: max}
		for range 20 {
			if look(t, d, m, anyBlock(r, 62+len(m.l))) == api.OK {
				right++
			}
		}
	}
	if right < 5000 {
		t.Error("too few blocks are right: ", right)
	}
}

func TestP2Apart(t *testing.T) {
	d, c := made(t, 200), made(t, 200)
	b := []byte{63, 31, 64, 1, 97, 1, 98} // Resize to 62
	got, _ := d.Decode(b)
	clear(b)
	want := api.Field{Name: "a", Value: "b"}
	sameBlock(t, got, decoder.Block{Fields: []api.Field{want}, Sizes: []int{62}})
	got.Fields[0].Name, d.All()[0].Name = "changed", "changed"
	sameTable(t, d, &model{[]api.Field{want}, 62})
	sameTable(t, c, &model{max: 200})
	x, _ := d.Decode([]byte{190, 190})
	y, _ := d.Decode([]byte{190, 190})
	x.Fields[0].Name = "changed"
	if y.Fields[0] != want || x.Fields[1] != want {
		t.Error("two answers share what they have")
	}
}

package encoder_test

import (
	"bytes"
	"encoding/hex"
	"math"
	"math/rand"
	"slices"
	"strings"
	"testing"

	"stickler/api"
	"stickler/decoder"
	"stickler/encoder"
	"stickler/repr"
	"stickler/static"
	"stickler/strlit"
)

var short = []encoder.Option{{ShortName: true, ShortValue: true}}

var (
	get    = [][2]string{{":method", "GET"}, {":scheme", "http"}, {":path", "/"}, {":authority", "www.example.com"}}
	again  = [][2]string{{":method", "GET"}, {":scheme", "http"}, {":path", "/"}, {":authority", "www.example.com"}, {"cache-control", "no-cache"}}
	other  = [][2]string{{":method", "GET"}, {":scheme", "https"}, {":path", "/index.html"}, {":authority", "www.example.com"}, {"custom-key", "custom-value"}}
	moved  = [][2]string{{":status", "302"}, {"cache-control", "private"}, {"date", "Mon, 21 Oct 2013 20:13:21 GMT"}, {"location", "https://www.example.com"}}
	moved7 = [][2]string{{":status", "307"}, {"cache-control", "private"}, {"date", "Mon, 21 Oct 2013 20:13:21 GMT"}, {"location", "https://www.example.com"}}
	found  = [][2]string{{":status", "200"}, {"cache-control", "private"}, {"date", "Mon, 21 Oct 2013 20:13:22 GMT"}, {"location", "https://www.example.com"}, {"content-encoding", "gzip"}, {"set-cookie", "foo=ASDJKHQKBZXOQWEOPIUAXQWEOIU; max-age=3600; version=1"}}
)

func fields(l [][2]string) []api.Field {
	var all []api.Field
	for _, f := range l {
		all = append(all, api.Field{Name: f[0], Value: f[1]})
	}
	return all
}

// talk is blocks that follow each other on one table, from the standard: what they say, and the table's weights then.
type talk struct {
	max    int
	how    []encoder.Option
	blocks []said
}

type said struct {
	bytes  string
	fields [][2]string
	size   int
}

var talks = []talk{
	{4096, nil, []said{
		{"828684410f7777772e6578616d706c652e636f6d", get, 57},
		{"828684be58086e6f2d6361636865", again, 110},
		{"828785bf400a637573746f6d2d6b65790c637573746f6d2d76616c7565", other, 164},
	}},
	{4096, short, []said{
		{"828684418cf1e3c2e5f23a6ba0ab90f4ff", get, 57},
		{"828684be5886a8eb10649cbf", again, 110},
		{"828785bf408825a849e95ba97d7f8925a849e95bb8e8b4bf", other, 164},
	}},
	{256, nil, []said{
		{"4803333032580770726976617465611d4d6f6e2c203231204f637420323031332032303a31333a323120474d546e1768747470733a2f2f7777772e6578616d706c652e636f6d", moved, 222},
		{"4803333037c1c0bf", moved7, 222},
		{"88c1611d4d6f6e2c203231204f637420323031332032303a31333a323220474d54c05a04677a69707738666f6f3d4153444a4b48514b425a584f5157454f50495541585157454f49553b206d61782d6167653d333630303b2076657273696f6e3d31", found, 215},
	}},
	{256, short, []said{
		{"488264025885aec3771a4b6196d07abe941054d444a8200595040b8166e082a62d1bff6e919d29ad171863c78f0b97c8e9ae82ae43d3", moved, 222},
		{"4883640effc1c0bf", moved7, 222},
		{"88c16196d07abe941054d444a8200595040b8166e084a62d1bffc05a839bd9ab77ad94e7821dd7f2e6c7b335dfdfcd5b3960d5af27087f3672c1ab270fb5291f9587316065c003ed4ee5b1063d5007", found, 215},
	}},
}

// model is an encoder by the document's words; its table has the newest first.
type model struct {
	l   []api.Field
	max int
}

func weights(l []api.Field) int {
	n := 0
	for _, f := range l {
		n += len(f.Name) + len(f.Value) + 32
	}
	return n
}

func (m *model) cut() {
	for weights(m.l) > m.max {
		m.l = m.l[:len(m.l)-1]
	}
}

// all are the static fields and the table's, by their places less 1.
func (m *model) all() []api.Field {
	var l []api.Field
	for i := 1; i <= 61; i++ {
		f, _ := static.At(i)
		l = append(l, f)
	}
	return append(l, m.l...)
}

func (m *model) encode(sizes []int, l []api.Field, how []encoder.Option) []byte {
	var b []byte
	for _, size := range sizes {
		b = append(b, block(repr.Repr{Kind: repr.Resize, Size: size})...)
		m.max = size
		m.cut()
	}
	for i, f := range l {
		o := encoder.Option{}
		if len(how) > 0 {
			o = how[i%len(how)]
		}
		b = append(b, block(m.written(f, o))...)
	}
	return b
}

func (m *model) written(f api.Field, o encoder.Option) repr.Repr {
	place := 1 + slices.IndexFunc(m.all(), func(g api.Field) bool { return g.Name == f.Name && g.Value == f.Value })
	r := repr.Repr{Kind: repr.Added, Index: 1 + slices.IndexFunc(m.all(), func(g api.Field) bool { return g.Name == f.Name })}
	if f.Never {
		r.Kind = repr.Never
	} else if o.Way == 2 {
		r.Kind = repr.Plain
	} else if o.Way != 1 && place > 0 {
		return repr.Repr{Kind: repr.Indexed, Index: place}
	}
	if o.NewName {
		r.Index = 0
	}
	if r.Index == 0 {
		r.Name = strlit.Text{S: f.Name, Short: o.ShortName}
	}
	r.Value = strlit.Text{S: f.Value, Short: o.ShortValue}
	if r.Kind == repr.Added {
		m.l = append([]api.Field{f}, m.l...)
		m.cut()
	}
	return r
}

func block(l ...repr.Repr) []byte {
	var all []byte
	for _, r := range l {
		b, e := repr.Put(r)
		if e != api.OK {
			panic(e)
		}
		all = append(all, b...)
	}
	return all
}

func made(t *testing.T, max int) *encoder.Encoder {
	t.Helper()
	c, e := encoder.New(max)
	if c == nil || e != api.OK {
		t.Fatal(max, e)
	}
	return c
}

func sameTable(t *testing.T, c *encoder.Encoder, m *model) {
	t.Helper()
	if c.Max() != m.max || !slices.Equal(c.All(), m.l) {
		t.Fatalf("the table has max %d, %v; want %d, %v", c.Max(), c.All(), m.max, m.l)
	}
}

// pair is an encoder with its model, and a decoder that reads what it writes.
type pair struct {
	c *encoder.Encoder
	m *model
	d *decoder.Decoder
}

func paired(t *testing.T, max int) pair {
	t.Helper()
	d, e := decoder.New(max)
	if e != api.OK {
		t.Fatal(e)
	}
	return pair{made(t, max), &model{max: max}, d}
}

// look encodes on both, and decodes.
func (p pair) look(t *testing.T, sizes []int, l []api.Field, how []encoder.Option) []byte {
	t.Helper()
	s, f, o := slices.Clone(sizes), slices.Clone(l), slices.Clone(how)
	got, e := p.c.Encode(sizes, l, how)
	want := p.m.encode(sizes, l, how)
	if e != api.OK || !bytes.Equal(got, want) {
		t.Fatalf("Encode(%v, %v, %v): %x, %d, want %x", sizes, l, how, got, e, want)
	}
	if !slices.Equal(s, sizes) || !slices.Equal(f, l) || !slices.Equal(o, how) {
		t.Fatal("Encode changes what it is given")
	}
	sameTable(t, p.c, p.m)
	read, e := p.d.Decode(got)
	if e != api.OK || !slices.Equal(read.Fields, l) || !slices.Equal(read.Sizes, sizes) {
		t.Fatalf("%x is read as %v, %d, was %v, %v", got, read, e, sizes, l)
	}
	if p.d.Max() != p.c.Max() || !slices.Equal(p.d.All(), p.c.All()) {
		t.Fatalf("tables are not alike: %v, %v", p.d.All(), p.c.All())
	}
	return got
}

func TestP241New(t *testing.T) {
	for _, max := range []int{0, 1, 4096, 1<<31 - 1} {
		sameTable(t, made(t, max), &model{max: max})
	}
	for _, max := range []int{math.MinInt, -1, 1 << 31, 1 << 32, math.MaxInt} {
		if c, e := encoder.New(max); c != nil || e != api.ErrArg {
			t.Errorf("New(%d): %v, %d", max, c, e)
		}
	}
}

func TestP242Known(t *testing.T) {
	for _, talk := range talks {
		p := paired(t, talk.max)
		for _, s := range talk.blocks {
			if b := p.look(t, nil, fields(s.fields), talk.how); hex.EncodeToString(b) != s.bytes {
				t.Errorf("%v: %x, want %s", s.fields, b, s.bytes)
			}
			if p.d.Size() != s.size {
				t.Error(p.d.Size(), s.size)
			}
		}
	}
}

func TestP242Example(t *testing.T) {
	p := paired(t, 100)
	get, ab := []api.Field{{Name: ":method", Value: "GET"}}, []api.Field{{Name: "a", Value: "b"}}
	for _, c := range []struct {
		l    []api.Field
		want []byte
	}{{get, []byte{130}}, {ab, []byte{64, 1, 97, 1, 98}}, {ab, []byte{190}}, {nil, nil}} {
		if b := p.look(t, nil, c.l, nil); !bytes.Equal(b, c.want) {
			t.Errorf("%v: %v, want %v", c.l, b, c.want)
		}
	}
}

func TestP242Sizes(t *testing.T) {
	p := paired(t, 100)
	ab := []api.Field{{Name: "a", Value: "b"}, {Name: "c", Value: "d"}}
	p.look(t, nil, ab, nil)
	if b := p.look(t, []int{0, 1<<31 - 1, 31, 68}, ab, nil); !bytes.HasPrefix(b, []byte{32, 63, 224, 255, 255, 255, 7, 63, 0, 63, 37, 64}) {
		t.Error(b)
	}
	p.look(t, []int{}, ab, nil)
	for _, wrong := range []int{math.MinInt, -1, 1 << 31, 1 << 32, math.MaxInt} {
		for _, sizes := range [][]int{{wrong}, {5, wrong}, {wrong, 5}, {0, 100, wrong}} {
			if b, e := p.c.Encode(sizes, ab, nil); e != api.ErrArg || len(b) != 0 {
				t.Errorf("%v: %v, %d", sizes, b, e)
			}
			sameTable(t, p.c, p.m)
		}
	}
	p.look(t, []int{34}, nil, nil)
	p.look(t, nil, ab[1:], nil)
	p.look(t, []int{33}, nil, nil)
	p.look(t, nil, ab, nil)
}

// ways are all options that tell themselves apart.
func ways() []encoder.Option {
	var l []encoder.Option
	for _, way := range []int{0, 1, 2, 3, -1, math.MinInt, math.MaxInt} {
		for i := range 8 {
			l = append(l, encoder.Option{Way: way, NewName: i&1 > 0, ShortName: i&2 > 0, ShortValue: i&4 > 0})
		}
	}
	return l
}

var some = []api.Field{
	{Name: ":method", Value: "GET"}, {Name: ":method", Value: "POST"}, {Name: ":method", Value: "PUT"}, {Name: ":path", Value: "/index.html"},
	{Name: ":status", Value: "500"}, {Name: ":status", Value: "999"}, {Name: "accept-encoding", Value: "gzip, deflate"}, {Name: "accept-encoding"},
	{Name: "cookie"}, {Name: "cookie", Value: "a"}, {Name: "a", Value: "b"}, {Name: "a", Value: "c"}, {Name: "a"}, {}, {Value: "v"},
	{Name: ":authority"}, {Name: "www-authenticate"}, {Name: "\xff\x00", Value: "\u20ac"}, {Name: "big", Value: strings.Repeat("big ", 60)},
	{Name: ":method", Value: "GET", Never: true}, {Name: ":method", Value: "POST", Never: true}, {Name: "a", Value: "b", Never: true}, {Name: "zz", Value: "b", Never: true},
}

func TestP242Ways(t *testing.T) {
	for _, max := range []int{0, 40, 4096} {
		for _, o := range ways() {
			p := paired(t, max)
			for range 3 {
				for _, f := range some {
					p.look(t, nil, []api.Field{f}, []encoder.Option{o})
				}
			}
		}
	}
}

func TestP242NamePlace(t *testing.T) {
	p := paired(t, 4096)
	look := func(f api.Field, o encoder.Option, want ...byte) {
		t.Helper()
		if b := p.look(t, nil, []api.Field{f}, []encoder.Option{o}); !bytes.Equal(b, want) {
			t.Errorf("%v, %v: %v, want %v", f, o, b, want)
		}
	}
	for i := 1; i <= 61; i++ {
		f, _ := static.At(i)
		first, _ := static.Find(f.Name, "\x00")
		f.Value = "v"
		look(f, encoder.Option{Way: 2}, block(repr.Repr{Kind: repr.Plain, Index: first, Value: strlit.Text{S: "v"}})...)
	}
	look(api.Field{Name: ":method", Value: "POST"}, encoder.Option{Way: 2}, 2, 4, 'P', 'O', 'S', 'T')
	look(api.Field{Name: ":status", Value: "204"}, encoder.Option{Way: 1}, 72, 3, '2', '0', '4')
	look(api.Field{Name: ":status", Value: "204"}, encoder.Option{}, 137)
	look(api.Field{Name: "a", Value: "1"}, encoder.Option{}, 64, 1, 'a', 1, '1')
	look(api.Field{Name: "a", Value: "2"}, encoder.Option{}, 126, 1, '2')
	look(api.Field{Name: "a", Value: "1"}, encoder.Option{}, 191)
	look(api.Field{Name: "a", Value: "1"}, encoder.Option{Way: 2}, 15, 47, 1, '1')
	look(api.Field{Name: "a", Value: "1"}, encoder.Option{Way: 2, NewName: true}, 0, 1, 'a', 1, '1')
	look(api.Field{Name: "a", Value: "1", Never: true}, encoder.Option{Way: 2}, 31, 47, 1, '1')
	look(api.Field{Name: "a", Value: "1", Never: true}, encoder.Option{Way: 1, NewName: true, ShortName: true}, 16, 129, 31, 1, '1')
	look(api.Field{Name: "a", Value: "1"}, encoder.Option{Way: 9, NewName: true}, 191)
	look(api.Field{Name: "a", Value: "3"}, encoder.Option{Way: 9, NewName: true}, 64, 1, 'a', 1, '3')
	look(api.Field{Name: "a", Value: "3"}, encoder.Option{Way: 1, ShortName: true, ShortValue: true}, 126, 129, 0x67)
	look(api.Field{Name: "b", Value: "", Never: true}, encoder.Option{}, 16, 1, 'b', 0)
}

func TestP242How(t *testing.T) {
	p := paired(t, 4096)
	l := []api.Field{{Name: "a", Value: "1"}, {Name: "a", Value: "1"}, {Name: "a", Value: "1"}, {Name: "a", Value: "1"}, {Name: "a", Value: "1"}}
	b := p.look(t, nil, l, []encoder.Option{{Way: 2}, {Way: 1, NewName: true}, {}})
	want := block(
		repr.Repr{Kind: repr.Plain, Name: strlit.Text{S: "a"}, Value: strlit.Text{S: "1"}},
		repr.Repr{Kind: repr.Added, Name: strlit.Text{S: "a"}, Value: strlit.Text{S: "1"}},
		repr.Repr{Kind: repr.Indexed, Index: 62},
		repr.Repr{Kind: repr.Plain, Index: 62, Value: strlit.Text{S: "1"}},
		repr.Repr{Kind: repr.Added, Name: strlit.Text{S: "a"}, Value: strlit.Text{S: "1"}},
	)
	if !bytes.Equal(b, want) {
		t.Errorf("%x, want %x", b, want)
	}
	if b := p.look(t, nil, l[:1], []encoder.Option{{}, {Way: 1}, {Way: 2}}); !bytes.Equal(b, []byte{190}) {
		t.Error("more options than fields: ", b)
	}
}

func TestP243Any(t *testing.T) {
	r := rand.New(rand.NewSource(243))
	options := ways()
	for range 400 {
		p := paired(t, r.Intn(400))
		for range 15 {
			var sizes []int
			var l []api.Field
			var how []encoder.Option
			for range max(0, r.Intn(6)-3) {
				sizes = append(sizes, r.Intn(400))
			}
			for range r.Intn(8) {
				l = append(l, some[r.Intn(len(some))])
			}
			for range r.Intn(5) {
				how = append(how, options[r.Intn(len(options))])
			}
			p.look(t, sizes, l, how)
		}
	}
}

func TestP243Nobody(t *testing.T) {
	var c *encoder.Encoder
	for _, sizes := range [][]int{nil, {5}, {-1}} {
		if b, e := c.Encode(sizes, some, nil); e != api.ErrNil || len(b) != 0 {
			t.Error(b, e)
		}
	}
	if c.Max() != 0 || len(c.All()) != 0 {
		t.Error("nil has a table")
	}
	p := pair{new(encoder.Encoder), &model{}, new(decoder.Decoder)}
	sameTable(t, p.c, p.m)
	p.look(t, nil, some, nil)
	p.look(t, []int{100}, some, nil)
	p.look(t, nil, some[10:12], short)
	if p.c.Max() != 100 || len(p.c.All()) == 0 {
		t.Error(p.c.Max(), p.c.All())
	}
}

func TestP2Apart(t *testing.T) {
	p, q := paired(t, 4096), paired(t, 4096)
	l := []api.Field{{Name: "a", Value: "b"}}
	x, _ := p.c.Encode(nil, l, nil)
	l[0].Name, p.c.All()[0].Name = "changed", "changed"
	sameTable(t, p.c, &model{[]api.Field{{Name: "a", Value: "b"}}, 4096})
	sameTable(t, q.c, &model{max: 4096})
	y, _ := q.c.Encode(nil, []api.Field{{Name: "a", Value: "b"}}, nil)
	if !bytes.Equal(x, y) {
		t.Error(x, y)
	}
	x[0] = 0
	if y[0] != 64 {
		t.Error("two answers share what they have")
	}
}

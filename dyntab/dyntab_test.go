package dyntab_test

import (
	"math"
	"math/rand"
	"slices"
	"strings"
	"testing"

	"stickler/api"
	"stickler/dyntab"
)

// model is a table by the document's words: the newest first.
type model struct {
	l   []api.Field
	max int
}

func weights(l []api.Field) int {
	n := 0
	for _, f := range l {
		n += len(f.Name) + len(f.Value) + 32
	}
	return n
}

func (m *model) add(f api.Field) {
	f.Never = false
	own := weights([]api.Field{f})
	for len(m.l) > 0 && weights(m.l)+own > m.max {
		m.l = m.l[:len(m.l)-1]
	}
	if own <= m.max {
		m.l = append([]api.Field{f}, m.l...)
	}
}

func (m *model) resize(max int) {
	m.max = max
	for weights(m.l) > max {
		m.l = m.l[:len(m.l)-1]
	}
}

func (m *model) find(name, value string) (int, bool) {
	for i, f := range m.l {
		if f.Name == name && f.Value == value {
			return i + 1, true
		}
	}
	for i, f := range m.l {
		if f.Name == name {
			return i + 1, false
		}
	}
	return 0, false
}

func same(t *testing.T, d *dyntab.Table, m *model) {
	t.Helper()
	if d.Len() != len(m.l) || d.Size() != weights(m.l) || d.Max() != m.max {
		t.Fatalf("Len %d, Size %d, Max %d, want %d, %d, %d", d.Len(), d.Size(), d.Max(), len(m.l), weights(m.l), m.max)
	}
	if l := d.All(); !slices.Equal(l, m.l) {
		t.Fatalf("All: %v, want %v", l, m.l)
	}
	for i := -2; i < len(m.l)+3; i++ {
		f, ok := d.At(i)
		if is := i >= 1 && i <= len(m.l); ok != is || is && f != m.l[i-1] || !is && f != (api.Field{}) {
			t.Fatalf("At(%d): %v, %v", i, f, ok)
		}
	}
	for _, i := range []int{math.MinInt, math.MaxInt, 1 << 32} {
		if f, ok := d.At(i); ok || f != (api.Field{}) {
			t.Fatalf("At(%d): %v, %v", i, f, ok)
		}
	}
	for _, name := range []string{"", "a", "b", "cc"} {
		for _, value := range []string{"", "a", "x", "yy"} {
			want, is := m.find(name, value)
			if i, ok := d.Find(name, value); i != want || ok != is {
				t.Fatalf("Find(%q, %q): %d, %v, want %d, %v of %v", name, value, i, ok, want, is, m.l)
			}
		}
	}
}

func made(t *testing.T, max int) *dyntab.Table {
	t.Helper()
	d, e := dyntab.New(max)
	if d == nil || e != api.OK {
		t.Fatalf("New(%d): %v, %d", max, d, e)
	}
	return d
}

func TestP211Weight(t *testing.T) {
	for _, c := range []struct {
		f    api.Field
		want int
	}{
		{api.Field{}, 32},
		{api.Field{Name: "a", Value: "b"}, 34},
		{api.Field{Name: "abc"}, 35},
		{api.Field{Value: "abcd", Never: true}, 36},
		{api.Field{Name: "\u20ac", Value: "\xff\x00"}, 37},
		{api.Field{Name: strings.Repeat("n", 1000), Value: strings.Repeat("v", 20000)}, 21032},
	} {
		if n := dyntab.Weight(c.f); n != c.want {
			t.Errorf("Weight(%.20q): %d, want %d", c.f.Name, n, c.want)
		}
	}
}

func TestP211New(t *testing.T) {
	for _, max := range []int{0, 1, 31, 32, 4096, 1<<31 - 2, 1<<31 - 1} {
		same(t, made(t, max), &model{max: max})
	}
	for _, max := range []int{math.MinInt, -1 << 32, -1, 1 << 31, 1<<31 + 1, 1 << 32, math.MaxInt} {
		if d, e := dyntab.New(max); d != nil || e != api.ErrArg {
			t.Errorf("New(%d): %v, %d", max, d, e)
		}
	}
}

func TestP212Add(t *testing.T) {
	d, m := made(t, 70), &model{max: 70}
	add := func(name, value string, never bool, want ...string) {
		t.Helper()
		f := api.Field{Name: name, Value: value, Never: never}
		d.Add(f)
		m.add(f)
		same(t, d, m)
		var names []string
		for _, f := range d.All() {
			names = append(names, f.Name)
		}
		if !slices.Equal(names, want) {
			t.Fatalf("%q is added: %q, want %q", name, names, want)
		}
	}
	add("a", "b", false, "a")
	add("c", "d", true, "c", "a") // 68 of 70
	add("e", "f", false, "e", "c")
	add("gg", "hh", false, "gg", "e") // 36 and 34: 70 of 70
	add("iii", "jj", false, "iii")    // 37 and 36 are too many
	add("k", strings.Repeat("l", 37), true, "k")
	add("k", strings.Repeat("l", 38), false) // 71: none is left, nor comes in
	add("", "", false, "")
	add("m", strings.Repeat("n", 1000), false)
	add("o", "p", false, "o")
	add("o", "p", false, "o", "o")
}

func TestP212Resize(t *testing.T) {
	d, m := made(t, 200), &model{max: 200}
	fill := func() {
		for _, name := range []string{"a", "b", "cc", "", "e"} {
			f := api.Field{Name: name, Value: "x"}
			d.Add(f)
			m.add(f)
		}
		same(t, d, m)
	}
	fill()
	for _, max := range []int{200, 171, 170, 169, 1000, 137, 136, 100, 67, 66, 34, 33, 4096} {
		if e := d.Resize(max); e != api.OK {
			t.Fatal(max, e)
		}
		m.resize(max)
		same(t, d, m)
		for _, wrong := range []int{math.MinInt, -1, 1 << 31, 1 << 32, math.MaxInt} {
			if e := d.Resize(wrong); e != api.ErrArg {
				t.Errorf("Resize(%d): %d", wrong, e)
			}
			same(t, d, m)
		}
	}
	fill()
	for _, max := range []int{0, 1<<31 - 1} {
		if e := d.Resize(max); e != api.OK {
			t.Fatal(max, e)
		}
		m.resize(max)
		same(t, d, m)
	}
	fill()
}

func TestP213Copy(t *testing.T) {
	d, m := made(t, 150), &model{max: 150}
	for _, name := range []string{"a", "b", "cc"} {
		d.Add(api.Field{Name: name, Value: "x"})
		m.add(api.Field{Name: name, Value: "x"})
	}
	c, n := d.Copy(), &model{max: 150, l: slices.Clone(m.l)}
	same(t, c, n)
	for i, name := range []string{"e", "f", "g", "hh", "i"} {
		f, o := api.Field{Name: name, Value: "x"}, api.Field{Name: "a", Value: name}
		d.Add(f)
		m.add(f)
		same(t, c, n)
		c.Add(o)
		n.add(o)
		same(t, d, m)
		if i == 3 {
			c.Resize(70)
			n.resize(70)
		}
		same(t, d, m)
		same(t, c, n)
	}
	d.Resize(0)
	m.resize(0)
	same(t, d, m)
	same(t, c, n)
}

func TestP213AllIsNew(t *testing.T) {
	d, m := made(t, 150), &model{max: 150}
	for _, name := range []string{"a", "b", "cc"} {
		d.Add(api.Field{Name: name, Value: "x"})
		m.add(api.Field{Name: name, Value: "x"})
	}
	l := d.All()
	for i := range l {
		l[i].Name = "changed"
	}
	_ = append(d.All()[:1], api.Field{Name: "changed"})
	same(t, d, m)
}

func TestP213FindNewest(t *testing.T) {
	d := made(t, 4096)
	for _, f := range []api.Field{{Name: "a", Value: "1"}, {Name: "a", Value: "2"}, {Name: "b", Value: "1"}, {Name: "a", Value: "1"}, {Name: "a", Value: "3"}} {
		d.Add(f)
	}
	for _, c := range []struct {
		name, value string
		want        int
		is          bool
	}{{"a", "1", 2, true}, {"a", "2", 4, true}, {"a", "3", 1, true}, {"a", "4", 1, false}, {"b", "2", 3, false}, {"b", "1", 3, true}, {"c", "1", 0, false}, {":method", "GET", 0, false}} {
		if i, ok := d.Find(c.name, c.value); i != c.want || ok != c.is {
			t.Errorf("Find(%q, %q): %d, %v", c.name, c.value, i, ok)
		}
	}
}

func TestP214Nobody(t *testing.T) {
	var d *dyntab.Table
	d.Add(api.Field{Name: "a"})
	for _, max := range []int{-1, 0, 100} {
		if e := d.Resize(max); e != api.ErrNil {
			t.Errorf("nil: Resize(%d): %d", max, e)
		}
	}
	same(t, d, &model{})
	if d.Copy() != nil {
		t.Error("nil has a copy")
	}
	for _, d := range []*dyntab.Table{{}, new(dyntab.Table)} {
		m := &model{}
		same(t, d, m)
		d.Add(api.Field{Name: "a"})
		d.Add(api.Field{})
		same(t, d, m)
		same(t, d.Copy(), m)
		if e := d.Resize(-1); e != api.ErrArg {
			t.Error(e)
		}
		if e := d.Resize(33); e != api.OK {
			t.Error(e)
		}
		m.resize(33)
		d.Add(api.Field{Name: "a"})
		m.add(api.Field{Name: "a"})
		same(t, d, m)
	}
}

func TestP212Any(t *testing.T) {
	r := rand.New(rand.NewSource(212))
	names, values := []string{"", "a", "b", "cc"}, []string{"", "a", "x", "yy", strings.Repeat("z", 60)}
	for range 300 {
		max := r.Intn(300)
		d, m := made(t, max), &model{max: max}
		for range 60 {
			if r.Intn(8) == 0 {
				max = r.Intn(300)
				d.Resize(max)
				m.resize(max)
			} else {
				f := api.Field{Name: names[r.Intn(4)], Value: values[r.Intn(5)], Never: r.Intn(2) == 0}
				d.Add(f)
				m.add(f)
			}
			if r.Intn(10) == 0 {
				d = d.Copy()
			}
			same(t, d, m)
		}
	}
}

func TestP2Apart(t *testing.T) {
	x, y := made(t, 100), made(t, 100)
	x.Add(api.Field{Name: "a"})
	same(t, y, &model{max: 100})
}

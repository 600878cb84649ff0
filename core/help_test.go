package core_test

import (
	"slices"
	"strings"
	"testing"

	"stickler/api"
	"stickler/core"
	"stickler/encoder"
	"stickler/life"
	"stickler/octet"
	"stickler/preface"
	"stickler/rules"
	"stickler/setting"
)

const (
	client = api.Client
	server = api.Server
	end    = api.FlagEnd
	whole  = api.FlagBlock
)

func conf() api.Config {
	return api.Config{Grace: 2, Streams: 9, Block: 1000, Queue: 3, Pings: 2, Table: 8000}
}

func raw(from, kind, flags, stream int, body ...byte) api.Raw {
	return api.Raw{From: from, Type: kind, Flags: flags, Stream: stream, Body: body}
}

// number is n in four bytes.
func number(n int) []byte {
	b, _ := octet.Put(nil, n, 4)
	return b
}

func first() api.Raw { return api.Raw{Type: api.Preface, Body: preface.Text()} }

// sets is SETTINGS, with ids and values in turn.
func sets(from int, l ...int) api.Raw {
	var all []api.Setting
	for i := 0; i < len(l); i += 2 {
		all = append(all, api.Setting{Id: l[i], Value: l[i+1]})
	}
	b, _ := setting.Put(all)
	return raw(from, api.Settings, 0, 0, b...)
}

func ack(from int) api.Raw { return raw(from, api.Settings, api.FlagAck, 0) }

func ping(from int, b byte) api.Raw {
	return raw(from, api.Ping, 0, 0, 0, 0, 0, 0, 0, 0, 0, b)
}

func pong(from int, b byte) api.Raw {
	return raw(from, api.Ping, api.FlagAck, 0, 0, 0, 0, 0, 0, 0, 0, b)
}

func away(from, last int) api.Raw {
	return raw(from, api.Goaway, 0, 0, append(number(last), 0, 0, 0, 0)...)
}

func grow(from, stream, step int) api.Raw {
	return raw(from, api.Window, 0, stream, number(step)...)
}

func reset(from, stream int) api.Raw {
	return raw(from, api.Reset, 0, stream, number(api.Cancel)...)
}

func data(from, stream, n, flags int) api.Raw {
	return raw(from, api.Data, flags, stream, make([]byte, n)...)
}

// fields are names and values, an = between.
func fields(l ...string) []api.Field {
	var all []api.Field
	for _, s := range l {
		name, value, _ := strings.Cut(s, "=")
		all = append(all, api.Field{Name: name, Value: value})
	}
	return all
}

// bytes are a block's: the sizes that it tells, and its fields, none of which comes into the table.
func bytes(sizes []int, l []api.Field) []byte {
	c, _ := encoder.New(0)
	b, _ := c.Encode(sizes, l, []encoder.Option{{Way: 2}})
	return b
}

func headers(from, stream, flags int, l ...string) api.Raw {
	return raw(from, api.Headers, whole|flags, stream, bytes(nil, fields(l...))...)
}

func get(stream, flags int) api.Raw {
	return headers(client, stream, flags, ":method=GET", ":scheme=http", ":path=/")
}

// sized is a request whose block tells sizes.
func sized(stream int, sizes ...int) api.Raw {
	return raw(client, api.Headers, whole|end, stream, bytes(sizes, fields(":method=GET", ":scheme=http", ":path=/"))...)
}

func status(stream, flags int, l ...string) api.Raw {
	return headers(server, stream, flags, append([]string{":status=200"}, l...)...)
}

func push(stream, promised int, l ...string) api.Raw {
	if len(l) == 0 {
		l = []string{":method=GET", ":scheme=http", ":path=/"}
	}
	return raw(server, api.Promise, whole, stream, append(number(promised), bytes(nil, fields(l...))...)...)
}

func goOn(from, stream, flags int, b ...byte) api.Raw {
	return raw(from, api.Continue, flags, stream, b...)
}

// both are the frames with which both sides begin.
func both() []api.Raw {
	return []api.Raw{first(), sets(client), sets(server)}
}

// cut cuts a frame's block into one that begins it and one that goes on.
func cut(r api.Raw, at int) []api.Raw {
	r.Flags &^= whole
	rest := r.Body[at:]
	r.Body = r.Body[:at]
	return []api.Raw{r, goOn(r.From, r.Stream, whole, rest...)}
}

func list(l ...any) []api.Raw {
	var all []api.Raw
	for _, x := range l {
		switch y := x.(type) {
		case api.Raw:
			all = append(all, y)
		case []api.Raw:
			all = append(all, y...)
		}
	}
	return all
}

// made is a connection on which the frames were done, each as the newest values say, all closed streams being known.
func made(t *testing.T, c api.Config, l ...api.Raw) *core.Core {
	t.Helper()
	k, e := core.New(c)
	if e != api.OK {
		t.Fatal(e)
	}
	for i, r := range l {
		done(t, k, i, r)
	}
	return k
}

func done(t *testing.T, k *core.Core, i int, r api.Raw) []api.Field {
	t.Helper()
	look(t, k, r)
	answer, rule := k.Ask(newest(k, r), true)
	l, e := k.Do(answer)
	if rule != 0 || e != api.OK {
		t.Fatalf("%d, %+v: %d, %s, %v", i, r, answer, rules.Name(rule), e)
	}
	return l
}

func newest(k *core.Core, r api.Raw) api.Values {
	return k.Sent(1 - r.From).Newest()
}

func look(t *testing.T, k *core.Core, r api.Raw) {
	t.Helper()
	was := slices.Clone(r.Body)
	if e := k.Look(r); e != api.OK || !slices.Equal(was, r.Body) {
		t.Fatalf("Look(%+v): %v", r, e)
	}
}

// asked says what a frame means, as the newest values say.
func asked(t *testing.T, k *core.Core, r api.Raw, kept bool, answer, rule int) {
	t.Helper()
	look(t, k, r)
	says(t, k, newest(k, r), kept, answer, rule)
}

func says(t *testing.T, k *core.Core, v api.Values, kept bool, answer, rule int) {
	t.Helper()
	if a, n := k.Ask(v, kept); a != answer || n != rule {
		t.Errorf("Ask(%+v, %v): %d, %q, want %d, %q", v, kept, a, rules.Name(n), answer, rules.Name(rule))
	}
}

// comes says what the last of some frames means behind the others, and behind those with which both sides begin.
func comes(t *testing.T, answer, rule int, l ...any) {
	t.Helper()
	all := list(l...)
	n := len(all) - 1
	k := made(t, conf(), append(both(), all[:n]...)...)
	asked(t, k, all[n], true, answer, rule)
}

func breaks(t *testing.T, rule int, l ...any) {
	t.Helper()
	comes(t, life.Break, rule, l...)
}

func passes(t *testing.T, l ...any) {
	t.Helper()
	comes(t, life.Pass, 0, l...)
}

func ignores(t *testing.T, l ...any) {
	t.Helper()
	comes(t, life.Ignore, 0, l...)
}

// many is a frame as often as said.
func many(n int, r api.Raw) []api.Raw {
	var l []api.Raw
	for range n {
		l = append(l, r)
	}
	return l
}

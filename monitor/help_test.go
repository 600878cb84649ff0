package monitor_test

import (
	"slices"
	"strings"
	"testing"

	"stickler/api"
	"stickler/encoder"
	"stickler/faults"
	"stickler/monitor"
	"stickler/octet"
	"stickler/preface"
	"stickler/rules"
	"stickler/setting"
)

const (
	client = api.Client
	server = api.Server
	end    = api.FlagEnd
	whole  = api.FlagBlock
)

func conf() api.Config {
	return api.Config{Grace: 1, Streams: 9, Block: 1000, Queue: 3, Pings: 3, Table: 8000}
}

func graced(n int) api.Config {
	c := conf()
	c.Grace = n
	return c
}

func raw(from, kind, flags, stream int, body ...byte) api.Raw {
	return api.Raw{From: from, Type: kind, Flags: flags, Stream: stream, Body: body}
}

func number(n int) []byte {
	b, _ := octet.Put(nil, n, 4)
	return b
}

// sets is SETTINGS, with ids and values in turn.
func sets(from int, l ...int) api.Raw {
	var all []api.Setting
	for i := 0; i < len(l); i += 2 {
		all = append(all, api.Setting{Id: l[i], Value: l[i+1]})
	}
	b, _ := setting.Put(all)
	return raw(from, api.Settings, 0, 0, b...)
}

func ack(from int) api.Raw { return raw(from, api.Settings, api.FlagAck, 0) }

func ping(from int) api.Raw { return raw(from, api.Ping, 0, 0, make([]byte, 8)...) }

func away(from, last int) api.Raw {
	return raw(from, api.Goaway, 0, 0, append(number(last), 0, 0, 0, 0)...)
}

func grow(from, stream, step int) api.Raw {
	return raw(from, api.Window, 0, stream, number(step)...)
}

func reset(from, stream int) api.Raw {
	return raw(from, api.Reset, 0, stream, number(api.Cancel)...)
}

func data(from, stream, n, flags int) api.Raw {
	return raw(from, api.Data, flags, stream, make([]byte, n)...)
}

// long is a frame of so many bytes of which nothing but its length is asked.
func long(from, n int) api.Raw { return raw(from, 77, 0, 0, make([]byte, n)...) }

func fields(l ...string) []api.Field {
	var all []api.Field
	for _, s := range l {
		name, value, _ := strings.Cut(s, "=")
		all = append(all, api.Field{Name: name, Value: value})
	}
	return all
}

func bytes(sizes []int, l ...string) []byte {
	c, _ := encoder.New(0)
	b, _ := c.Encode(sizes, fields(l...), []encoder.Option{{Way: 2}})
	return b
}

func headers(from, stream, flags int, l ...string) api.Raw {
	return raw(from, api.Headers, whole|flags, stream, bytes(nil, l...)...)
}

func get(stream, flags int, sizes ...int) api.Raw {
	return raw(client, api.Headers, whole|flags, stream, bytes(sizes, ":method=GET", ":scheme=http", ":path=/")...)
}

func status(stream, flags int) api.Raw {
	return headers(server, stream, flags, ":status=200")
}

func push(stream, promised int) api.Raw {
	return raw(server, api.Promise, whole, stream, append(number(promised), bytes(nil, ":method=GET", ":scheme=http", ":path=/")...)...)
}

// both are the frames with which both sides begin.
func both() []api.Raw {
	return []api.Raw{{Type: api.Preface, Body: preface.Text()}, sets(client), sets(server)}
}

func begin(l ...api.Raw) []api.Raw {
	return append(both(), l...)
}

// made is a monitor that allows all of some frames.
func made(t *testing.T, c api.Config, l []api.Raw) *monitor.Monitor {
	t.Helper()
	m, e := monitor.New(c)
	if e != api.OK || m.Over() {
		t.Fatal(e)
	}
	for i, r := range l {
		if o := step(t, m, r); m.Over() || len(o.Rules) > 0 || len(o.Faults) > 0 {
			t.Fatalf("%d, %+v: %+v", i, r, o)
		}
	}
	return m
}

func step(t *testing.T, m *monitor.Monitor, r api.Raw) api.Outcome {
	t.Helper()
	was := slices.Clone(r.Body)
	o, e := m.Step(r)
	if e != api.OK || !slices.Equal(was, r.Body) {
		t.Fatal(e)
	}
	return o
}

// comes says what the last of some frames comes to.
func comes(t *testing.T, c api.Config, kind int, l ...api.Raw) {
	t.Helper()
	n := len(l) - 1
	m := made(t, c, l[:n])
	if o := step(t, m, l[n]); o.Kind != kind || m.Over() != (kind == api.Rejected || kind == api.Limited) || len(o.Rules) > 0 || len(o.Faults) > 0 {
		t.Errorf("%+v: %+v", l[n], o)
	}
}

// rejects says which rules the last of some frames breaks, and how that may be told.
func rejects(t *testing.T, c api.Config, broken, told string, l ...api.Raw) {
	t.Helper()
	n := len(l) - 1
	m := made(t, c, l[:n])
	o := step(t, m, l[n])
	if o.Kind != api.Rejected || !m.Over() || rules.Show(o.Rules) != broken || faults.Show(o.Faults) != told || len(o.Fields) > 0 {
		t.Errorf("%d, %s, %s; want %s, %s", o.Kind, rules.Show(o.Rules), faults.Show(o.Faults), broken, told)
	}
	if !slices.Equal(o.Rules, rules.Of(o.Rules...)) || !faults.Same(o.Faults, faults.Of(o.Faults...)) {
		t.Error("no sets:", o)
	}
}

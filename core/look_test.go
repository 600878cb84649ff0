package core_test

import (
	"math"
	"slices"
	"testing"

	"stickler/api"
	"stickler/core"
	"stickler/life"
)

func TestP391Right(t *testing.T) {
	least := api.Config{Grace: 0, Streams: 1, Block: 0, Queue: 1, Pings: 0, Table: 4096}
	most := api.Config{Grace: 64, Streams: 1024, Block: 1 << 20, Queue: 32, Pings: 64, Table: 1 << 20}
	for _, c := range []api.Config{least, most, conf()} {
		if k, e := core.New(c); !core.Right(c) || e != api.OK || k == nil {
			t.Errorf("%+v: %v", c, e)
		}
	}
	set := func(c api.Config, i, n int) api.Config {
		*[]*int{&c.Grace, &c.Streams, &c.Block, &c.Queue, &c.Pings, &c.Table}[i] = n
		return c
	}
	under := [6]int{-1, 0, -1, 0, -1, 4095}
	above := [6]int{65, 1025, 1<<20 + 1, 33, 65, 1<<20 + 1}
	for i := range 6 {
		for _, n := range []int{under[i], above[i], math.MinInt, math.MaxInt} {
			for _, c := range []api.Config{set(least, i, n), set(most, i, n)} {
				if k, e := core.New(c); core.Right(c) || e != api.ErrArg || k != nil {
					t.Errorf("%+v: %v, %v", c, k, e)
				}
			}
		}
	}
	if core.Right(api.Config{}) {
		t.Error("the zero config")
	}
}

func TestP391New(t *testing.T) {
	k := made(t, conf())
	for side := range 2 {
		size, max := k.Table(side)
		if k.Sent(side).Sent() != 0 || k.Memory(side).Len() != 0 || size != 0 || max != 4096 {
			t.Error(side, size, max)
		}
	}
	for _, side := range []int{math.MinInt, -1, 2, math.MaxInt} {
		if n, max := k.Table(side); n != 0 || max != 0 || k.Sent(side) != nil || k.Memory(side) != nil {
			t.Error("side", side)
		}
	}
	if k.Sent(0) == k.Sent(1) || k.Memory(0) == k.Memory(1) || k.Sent(0) != k.Sent(0) {
		t.Error("each side has its own")
	}
}

func TestP391Kept(t *testing.T) {
	k := made(t, conf(), list(both(), get(1, 0), reset(server, 1))...)
	k.Sent(server).Push([]api.Setting{{Id: api.SetTable, Value: 100}})
	if !k.Memory(client).Keep(1) || k.Memory(server).Len() != 1 || k.Sent(server).Sent() != 2 {
		t.Fatal("not those that are kept")
	}
	// What is done with the queue counts as sent.
	for range 2 {
		done(t, k, 0, ack(client))
	}
	asked(t, k, sized(3), true, life.Break, api.RuleMissing)
	k = made(t, conf(), both()...)
	k.Sent(server).Ack()
	asked(t, k, ack(client), true, life.Break, api.RuleAck)
}

func TestP392Wrong(t *testing.T) {
	for _, begun := range [][]api.Raw{nil, {first()}, both()} {
		k := made(t, conf(), begun...)
		for _, r := range []api.Raw{
			raw(-1, api.Settings, 0, 0), raw(2, api.Settings, 0, 0), raw(math.MaxInt, api.Settings, 0, 0), {From: 2, Type: api.Preface},
			raw(server, -2, 0, 0), raw(server, 256, 0, 0), raw(server, api.Settings, -1, 0), raw(server, api.Settings, 256, 0),
			raw(server, api.Settings, 0, -1), raw(server, api.Settings, 0, api.MaxStream+1), raw(server, 77, 0, 0, make([]byte, api.MaxFrame+1)...),
			{From: server, Type: api.Preface}, {From: server, Type: api.Preface, Body: first().Body},
		} {
			if e := k.Look(r); e != api.ErrArg {
				t.Errorf("Look(%d, %d): %v", r.From, r.Type, e)
			}
		}
		for _, r := range []api.Raw{sets(client), ping(client, 1), raw(client, 77, 0, 0)} {
			if len(begun) == 0 && k.Look(r) != api.ErrArg {
				t.Error("a frame of a client that has sent nothing")
			}
		}
		if len(begun) > 0 && k.Look(first()) != api.ErrArg {
			t.Error("a second Preface")
		}
		// Nothing has changed.
		if a, rule := k.Ask(api.Values{}, true); a != 0 || rule != 0 {
			t.Error(a, rule)
		}
		asked(t, k, sets(server), true, life.Pass, 0)
	}
	k := made(t, conf())
	look(t, k, raw(server, 255, 255, api.MaxStream, make([]byte, api.MaxFrame)...))
}

func TestP392Over(t *testing.T) {
	k := made(t, conf(), both()...)
	look(t, k, ping(client, 1))
	if k.Look(ping(client, 1)) != api.ErrOver || k.Look(ping(5, 1)) != api.ErrOver {
		t.Error("two frames at once")
	}
	k.Ask(newest(k, ping(client, 1)), true)
	if _, e := k.Do(life.Pass); e != api.OK {
		t.Fatal(e)
	}
	look(t, k, raw(client, api.Ping, 0, 0, 1, 2))
	says(t, k, api.Values{Frame: api.MinFrame}, true, life.Break, api.RuleForm)
	if e := k.Look(ping(client, 1)); e != api.ErrOver {
		t.Error("what breaks a rule is looked at still:", e)
	}
}

func TestP392Kept(t *testing.T) {
	// What is handed in may be changed afterwards.
	k := made(t, conf(), both()...)
	for _, l := range [][]api.Raw{{get(1, 0)}, cut(status(1, 0, "a=b"), 3), {ping(server, 5)}} {
		for i, r := range l {
			look(t, k, r)
			clear(r.Body)
			says(t, k, newest(k, r), true, life.Pass, 0)
			fields, e := k.Do(life.Pass)
			if e != api.OK || i == 1 && (len(fields) != 2 || fields[1].Value != "b") {
				t.Fatal(fields, e)
			}
		}
	}
	asked(t, k, pong(client, 5), true, life.Pass, 0)
}

func TestP392Read(t *testing.T) {
	// a = b comes into the table: 34 bytes.
	add := []byte{64, 1, 'a', 1, 'b'}
	table := func(k *core.Core, want int) {
		t.Helper()
		if n, max := k.Table(client); n != want || max != 4096 {
			t.Errorf("Table: %d, %d, want %d", n, max, want)
		}
		if n, _ := k.Table(server); n != 0 {
			t.Error("the server's table:", n)
		}
	}
	block := raw(client, api.Headers, whole, 1, add...)
	for _, x := range []struct {
		before []api.Raw
		r      api.Raw
		want   int
	}{
		{both(), block, 34},
		{both(), raw(client, api.Headers, whole, 2, add...), 34}, // whatever other rule it breaks
		{both(), raw(client, api.Promise, whole, 1, append(number(2), add...)...), 34},
		{both(), raw(client, api.Headers, 0, 1, add...), 0},
		{[]api.Raw{first()}, block, 0}, // first
		{list(both(), raw(client, api.Headers, 0, 1)), block, 0},
		{list(both(), raw(client, api.Headers, 0, 1)), goOn(client, 3, whole, add...), 0}, // order
		{list(both(), raw(client, api.Headers, 0, 1)), goOn(client, 1, whole, add...), 34},
		{list(both(), raw(client, api.Headers, 0, 1)), goOn(client, 1, 0, add...), 0},
		{both(), goOn(client, 1, whole, add...), 0},
		{both(), raw(client, api.Headers, whole, 0, add...), 0},                                             // form
		{both(), raw(client, api.Headers, whole|api.FlagPadded, 1, append([]byte{200}, add...)...), 0},      // form
		{both(), raw(client, api.Headers, whole, 1, append(slices.Clone(add), make([]byte, 996)...)...), 0}, // no room
		{both(), raw(client, api.Headers, whole, 1, append(slices.Clone(add), 128)...), 0},                  // it can't be read
		{both(), raw(client, 77, whole, 1, add...), 0},
	} {
		k := made(t, conf(), x.before...)
		look(t, k, x.r)
		table(k, x.want)
		k.Ask(api.Values{}, false)
		k.Do(life.Break)
		table(k, x.want)
	}
	// Size is not asked.
	k := made(t, api.Config{Grace: 1, Streams: 1, Block: 1 << 20, Queue: 1, Table: 4096}, both()...)
	long := append(slices.Clone(add), bytes(nil, []api.Field{{Name: "long", Value: string(make([]byte, 20000))}})...)
	asked(t, k, raw(client, api.Headers, whole, 1, long...), true, life.Break, api.RuleSize)
	table(k, 34)
}

func TestP392Room(t *testing.T) {
	// What has room just so is read.
	c := conf()
	c.Block = len(get(1, 0).Body)
	k := made(t, c, list(both(), cut(get(1, end), 4), cut(get(3, end), 0), get(5, end))...)
	if _, is := k.Late(); is {
		t.Error("late")
	}
	c.Block--
	k = made(t, c, both()...)
	asked(t, k, get(1, end), true, life.Pass, 0)
	if _, e := k.Do(life.Pass); e != api.ErrFull {
		t.Error(e)
	}
	k = made(t, c, list(both(), cut(get(1, end), 4)[:1])...)
	asked(t, k, cut(get(1, end), 4)[1], true, life.Pass, 0)
	if _, e := k.Do(life.Pass); e != api.ErrFull {
		t.Error(e)
	}
}

func TestP392Late(t *testing.T) {
	late := func(k *core.Core, r api.Raw, want int) {
		t.Helper()
		look(t, k, r)
		if id, is := k.Late(); id != want || is != (want != 0) {
			t.Errorf("Late: %d, %v, want %d", id, is, want)
		}
		answer, _ := k.Ask(newest(k, r), true)
		k.Do(answer)
	}
	k := made(t, conf())
	if id, is := k.Late(); id != 0 || is {
		t.Error("of nothing:", id)
	}
	late(k, first(), 0)
	late(k, sets(client), 0)
	late(k, sets(server), 0)
	late(k, get(3, 0), 0)
	late(k, push(3, 2), 0)
	late(k, data(client, 3, 1, end), 0)
	late(k, status(3, end), 0)
	late(k, reset(server, 2), 0)
	if id, is := k.Late(); id != 0 || is {
		t.Error("behind Do:", id)
	}
	late(k, reset(client, 3), 3)
	late(k, reset(client, 2), 2)
	late(k, reset(server, 3), 3)
	late(k, raw(client, api.Priority, 0, 3, 0, 0, 0, 0, 0), 3)
	late(k, raw(server, 77, 0, 3), 3)
	late(k, grow(client, 3, 1), 3)
	late(k, grow(client, 0, 1), 0)
	late(k, cut(get(3, 0), 3)[0], 3)
	late(k, cut(get(3, 0), 3)[1], 3)
	k = made(t, conf(), list(both(), get(1, 0), get(3, 0), reset(client, 1), reset(client, 3), away(server, 1))...)
	late(k, reset(server, 3), 3) // it is beyond for its owner alone
	late(k, reset(client, 3), 0)
	late(k, raw(client, 77, 0, 3), 0)
	late(k, raw(client, 77, 0, 1), 1)
	late(k, data(client, 1, 1, 0), 1)
}

package core

import (
	"slices"

	"stickler/api"
	"stickler/life"
	"stickler/message"
	"stickler/roster"
	"stickler/tally"
)

// Do does what is looked at.
func (c *Core) Do(answer int) ([]api.Field, api.Errno) {
	switch {
	case c == nil:
		return nil, api.ErrNil
	case c.seen == nil || answer != life.Pass && answer != life.Ignore || !c.seen.answered[answer]:
		return nil, api.ErrNone
	}
	x := c.seen
	e := c.do(answer)
	c.seen = nil
	if e != api.OK {
		c.over = true
		return nil, e
	}
	return x.says.Fields, api.OK
}

func (c *Core) do(answer int) api.Errno {
	x := c.seen
	if x.crowded || slices.ContainsFunc(x.says.Sizes, func(size int) bool { return size > c.config.Table }) {
		return api.ErrFull
	}
	p := &c.parties[x.from]
	p.begun = true
	p.framed = p.framed || x.Type != api.Preface
	if x.whole {
		p.unbind()
	}
	switch {
	case answer == life.Pass:
		return c.pass()
	case x.Type == api.Data:
		c.takeData()
	}
	return api.OK
}

// pass does what isn't ignored. What there is no room for comes ahead of all that it would change.
func (c *Core) pass() api.Errno {
	x := c.seen
	p := &c.parties[x.from]
	switch {
	case x.Type == api.Settings:
		return c.doSettings()
	case x.Type == api.Ping && x.has(api.FlagAck):
		c.parties[x.to()].pings.Answer(x.Data)
	case x.Type == api.Ping:
		return p.pings.Send(x.Data)
	case x.Type == api.Goaway:
		p.away, _ = p.away.Tell(x.Last)
	case x.Type == api.Window:
		c.doWindow()
	case x.Type == api.Reset:
		s, _ := c.streams.Get(x.Stream)
		s.Life = life.Resets(s.Life, x.from)
		c.put(s)
	case x.Type == api.Data:
		c.doData()
	case x.whole && x.first.Type == api.Headers:
		return c.doHeaders()
	case x.whole:
		return c.doPromise()
	}
	return api.OK
}

func (c *Core) doSettings() api.Errno {
	x := c.seen
	p := &c.parties[x.from]
	if x.has(api.FlagAck) {
		table, is := c.parties[x.to()].acknowledged()
		if is && table < p.table.Max() {
			p.bind(table)
		}
		return api.OK
	}
	if p.sent.Sent()-p.sent.Acked() >= c.config.Queue {
		return api.ErrFull
	}
	p.sent.Push(x.Settings)
	p.note()
	return api.OK
}

func (c *Core) doWindow() {
	x := c.seen
	if x.Stream == 0 {
		c.window, _ = c.window.Give(x.to(), x.Step, firstWindow)
		return
	}
	s, _ := c.streams.Get(x.Stream)
	s.Win, _ = s.Win.Give(x.to(), x.Step, c.parties[x.from].sent.Newest().Window)
	c.put(s)
}

func (c *Core) takeData() {
	c.window, _ = c.window.Take(c.seen.from, c.seen.length, firstWindow)
}

func (c *Core) doData() {
	x := c.seen
	c.takeData()
	s, _ := c.streams.Get(x.Stream)
	// With which initial window they were asked for is not known here; what is left is the same with any in which there is room.
	s.Win, _ = s.Win.Take(x.from, x.length, api.MaxStream)
	s.Talk[x.from], _ = s.Talk[x.from].Data(len(x.Data), x.ends())
	c.put(c.ended(s))
}

func (c *Core) doHeaders() api.Errno {
	x := c.seen
	talk, m, _ := c.talk()
	s, is := c.streams.Get(x.Stream)
	if !is {
		s = roster.Stream{Id: x.Stream, Life: life.State{Kind: life.Open}}
		s.Talk[api.Server] = tally.Answers(m.Method)
	}
	if s.Life.Kind == life.Reserved {
		s.Life.Kind = life.Open
		s.Life = life.Ends(s.Life, api.Client)
	}
	s.Talk[x.from] = talk
	s = c.ended(s)
	if !is {
		return c.streams.Begin(s)
	}
	c.put(s)
	return api.OK
}

func (c *Core) doPromise() api.Errno {
	x := c.seen
	m, _ := message.Check(message.Promise, x.says.Fields)
	s := roster.Stream{Id: x.first.Promised, Life: life.State{Kind: life.Reserved, Owner: api.Server}}
	s.Talk[api.Server] = tally.Answers(m.Method)
	return c.streams.Begin(s)
}

// ended is the stream, ended by who sends, if the frame or the block ends it.
func (c *Core) ended(s roster.Stream) roster.Stream {
	if c.seen.ends() {
		s.Life = life.Ends(s.Life, c.seen.from)
	}
	return s
}

// put puts a stream in its place; one that is closed now may be forgotten by both sides.
func (c *Core) put(s roster.Stream) {
	c.streams.Set(s)
	if s.Life.Kind == life.Closed {
		c.parties[api.Client].memory.Close(s.Id)
		c.parties[api.Server].memory.Close(s.Id)
	}
}

package core

import (
	"slices"

	"stickler/api"
	"stickler/kinds"
	"stickler/life"
	"stickler/message"
	"stickler/roster"
	"stickler/setting"
	"stickler/tally"
)

// Ask is what it means that it is sent.
func (c *Core) Ask(v api.Values, kept bool) (int, int) {
	if c == nil || c.seen == nil {
		return 0, 0
	}
	answer, rule := c.ask(v, kept)
	c.seen.answered[answer] = true
	return answer, rule
}

func (c *Core) ask(v api.Values, kept bool) (int, int) {
	x := c.seen
	switch {
	case x.Type == api.Preface:
		return unless(!x.isText, api.RulePreface)
	case x.early:
		return life.Break, api.RuleFirst
	case x.length > v.Frame:
		return life.Break, api.RuleSize
	case x.astray:
		return life.Break, api.RuleOrder
	case !kinds.Known(x.Type):
		return life.Ignore, 0
	case x.wrong:
		return life.Break, api.RuleForm
	}
	switch x.Type {
	case api.Data:
		return c.askData(v, kept)
	case api.Priority:
		return life.Ignore, 0
	case api.Reset:
		return c.askStream(kept)
	case api.Settings:
		return c.askSettings()
	case api.Ping:
		return c.askPing()
	case api.Goaway:
		_, is := c.parties[x.from].away.Tell(x.Last)
		return unless(!is, api.RuleAway)
	case api.Window:
		return c.askWindow(kept)
	}
	return c.askBlock(v, kept)
}

// askStream asks whether the frame may come on its stream.
func (c *Core) askStream(kept bool) (int, int) {
	x := c.seen
	if c.beyond(x.Stream) {
		return life.Ignore, 0
	}
	return life.Ask(c.streams.State(x.Stream), x.from, x.Type, kept)
}

func (c *Core) askPing() (int, int) {
	x := c.seen
	if x.has(api.FlagAck) && !c.parties[x.to()].pings.Waits(x.Data) {
		return life.Ignore, 0
	}
	return life.Pass, 0
}

func (c *Core) askSettings() (int, int) {
	x := c.seen
	if x.has(api.FlagAck) {
		sent := c.parties[x.to()].sent
		return unless(sent.Acked() == sent.Sent(), api.RuleAck)
	}
	if _, is := setting.Check(x.Settings, x.from); !is {
		return life.Break, api.RuleValue
	}
	return unless(c.spreads(), api.RuleSpread)
}

// spreads tells whether with the settings some stream's window is too large.
func (c *Core) spreads() bool {
	x := c.seen
	initial := setting.Apply(c.parties[x.from].sent.Newest(), x.Settings).Window
	return slices.ContainsFunc(c.streams.All(), func(s roster.Stream) bool {
		return (s.Life.Kind == life.Reserved || s.Life.Kind == life.Open) && s.Win.Room(x.to(), initial) > api.MaxStream
	})
}

func (c *Core) askWindow(kept bool) (int, int) {
	x := c.seen
	w, initial := c.window, firstWindow
	if x.Stream != 0 {
		if answer, rule := c.askStream(kept); answer != life.Pass {
			return answer, rule
		}
		s, _ := c.streams.Get(x.Stream)
		w, initial = s.Win, c.parties[x.from].sent.Newest().Window
	}
	if x.Step == 0 {
		return life.Break, api.RuleStep
	}
	_, is := w.Give(x.to(), x.Step, initial)
	return unless(!is, api.RuleWindow)
}

func (c *Core) askData(v api.Values, kept bool) (int, int) {
	x := c.seen
	answer, rule := c.askStream(kept)
	if answer == life.Break {
		return answer, rule
	}
	// Bytes that are ignored count for the connection all the same.
	if _, is := c.window.Take(x.from, x.length, firstWindow); !is {
		return life.Break, api.RuleConn
	}
	if answer == life.Ignore {
		return answer, 0
	}
	s, _ := c.streams.Get(x.Stream)
	if _, is := s.Win.Take(x.from, x.length, v.Window); !is {
		return life.Break, api.RuleStream
	}
	_, rule = s.Talk[x.from].Data(len(x.Data), x.ends())
	return unless(rule != 0, rule)
}

func (c *Core) askBlock(v api.Values, kept bool) (int, int) {
	x := c.seen
	switch {
	case x.Type == api.Promise && x.from == api.Client:
		return life.Break, api.RuleClient
	case !x.whole:
		return life.Pass, 0
	}
	if rule := c.tableRule(v); rule != 0 {
		return life.Break, rule
	}
	if x.first.Type == api.Headers {
		return c.askHeaders(v, kept)
	}
	return c.askPromise(v, kept)
}

// tableRule is the rule of the table that the block breaks.
func (c *Core) tableRule(v api.Values) int {
	x := c.seen
	p := &c.parties[x.from]
	sizes := x.says.Sizes
	switch {
	case x.unread:
		return api.RuleTable
	// It is the first size that counts: once the table was so small, it may grow again.
	case p.bounded && (len(sizes) == 0 || sizes[0] > p.bound):
		return api.RuleMissing
	case len(sizes) > 0 && slices.Max(sizes) > v.Table:
		return api.RuleUpdate
	}
	return 0
}

func (c *Core) askHeaders(v api.Values, kept bool) (int, int) {
	x := c.seen
	if c.beyond(x.Stream) {
		return life.Ignore, 0
	}
	state := c.streams.State(x.Stream)
	if answer, rule := life.Ask(state, x.from, api.Headers, kept); answer != life.Pass {
		return answer, rule
	}
	isNew := state.Kind == life.Idle || state.Kind == life.Reserved
	if isNew && c.streams.Active(x.from) >= v.Streams {
		return life.Break, api.RuleMany
	}
	_, _, rule := c.talk()
	return unless(rule != 0, rule)
}

// talk is what who sends says on the stream with the block's fields.
func (c *Core) talk() (tally.Tally, message.Message, int) {
	x := c.seen
	so := tally.Asks()
	if s, is := c.streams.Get(x.Stream); is {
		so = s.Talk[x.from]
	}
	return so.Head(x.says.Fields, x.ends())
}

func (c *Core) askPromise(v api.Values, kept bool) (int, int) {
	x := c.seen
	answer, rule := life.Ask(c.streams.State(x.Stream), x.from, api.Promise, kept)
	owner, is := roster.Owner(x.first.Promised)
	switch {
	case answer == life.Break:
		return answer, rule
	case v.Push == 0:
		return life.Break, api.RulePush
	case !is || owner != api.Server || c.streams.State(x.first.Promised).Kind != life.Idle:
		return life.Break, api.RulePromised
	case c.beyond(x.first.Promised):
		return life.Ignore, 0
	}
	_, rule = message.Check(message.Promise, x.says.Fields)
	return unless(rule != 0, rule)
}

// unless is Pass, but for the rule that is broken.
func unless(broken bool, rule int) (int, int) {
	if broken {
		return life.Break, rule
	}
	return life.Pass, 0
}

package core

import (
	"stickler/api"
	"stickler/decoder"
	"stickler/frame"
	"stickler/kinds"
	"stickler/life"
	"stickler/preface"
	"stickler/roster"
)

// sight is a frame that is looked at. Of one that is wrong in itself, and of a Preface, the frame has its head alone.
type sight struct {
	api.Frame
	from     int
	length   int  // how many bytes its body has
	isText   bool // of a Preface: it is the preface
	early    bool // it comes ahead of its side's first settings
	astray   bool // the block that was begun doesn't take it
	wrong    bool // it is wrong in itself
	crowded  bool // there is no room for its bytes of a block
	whole    bool // a block ends with it, the first frame of which is first
	first    api.Frame
	unread   bool // the block can't be read
	says     decoder.Block
	answered [life.Break + 1]bool // what Ask has answered
}

// Look looks at what comes.
func (c *Core) Look(r api.Raw) api.Errno {
	switch {
	case c == nil:
		return api.ErrNil
	case c.streams == nil || c.over || c.seen != nil:
		return api.ErrOver
	case !isSide(r.From):
		return api.ErrArg
	case r.Type == api.Preface:
		return c.lookPreface(r)
	}
	f, fault, e := frame.Parse(r)
	p := &c.parties[r.From]
	if e != api.OK || r.From == api.Client && !p.begun {
		return api.ErrArg
	}
	x := sight{Frame: f, from: r.From, length: len(r.Body), wrong: fault != api.Fault{}}
	if x.wrong {
		x.Frame = headOf(r)
	}
	x.early = !p.framed && (x.Type != api.Settings || x.has(api.FlagAck))
	x.astray = !p.block.Takes(x.Frame)
	if !x.early && !x.astray && !x.wrong {
		p.gather(&x)
	}
	c.seen = &x
	return api.OK
}

// Late is the closed stream on which it is.
func (c *Core) Late() (int, bool) {
	if c == nil || c.seen == nil {
		return 0, false
	}
	id := c.seen.Stream
	if c.streams.State(id).Kind != life.Closed || c.beyond(id) {
		return 0, false
	}
	return id, true
}

func (c *Core) lookPreface(r api.Raw) api.Errno {
	if r.From != api.Client || c.parties[api.Client].begun {
		return api.ErrArg
	}
	c.seen = &sight{Frame: headOf(r), from: r.From, length: len(r.Body), isText: preface.Is(r.Body)}
	return api.OK
}

// beyond tells whether a stream of who sends is above the last one that the receiver takes.
func (c *Core) beyond(id int) bool {
	owner, is := roster.Owner(id)
	return is && owner == c.seen.from && c.parties[c.seen.to()].away.Beyond(id)
}

// gather puts a frame to the block that was begun, and reads the block that ends with it.
func (p *party) gather(x *sight) {
	first, whole, e := p.block.Add(x.Frame)
	x.crowded = e == api.ErrLong
	if !whole {
		return
	}
	x.whole, x.first = true, first
	x.says, e = p.table.Decode(first.Data)
	x.unread = e != api.OK
}

// to is who receives it.
func (x *sight) to() int {
	return 1 - x.from
}

// has tells whether its type uses a flag, and it has it.
func (x *sight) has(flag int) bool {
	return kinds.Has(x.Type, x.Flags, flag)
}

// ends tells whether the block's first frame, or that of data, ends the stream.
func (x *sight) ends() bool {
	if x.whole {
		return kinds.Has(x.first.Type, x.first.Flags, api.FlagEnd)
	}
	return x.has(api.FlagEnd)
}

func headOf(r api.Raw) api.Frame {
	return api.Frame{Type: r.Type, Flags: r.Flags, Stream: r.Stream}
}

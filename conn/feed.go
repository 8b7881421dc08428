package conn

import (
	"slices"

	"flume/api"
	"flume/frame"
	"flume/stream"
)

// mostControl is how many control frames may wait: a peer that asks for
// answers, and does not read them, gets no more of them.
const mostControl = 1000

// Feed is what is told of octets that come (M2).
func (c *Conn) Feed(b []byte) []api.Event {
	if !c.broken {
		c.take(c.greet(b))
	}
	told := c.told
	c.told = nil
	return told
}

func (c *Conn) tell(e api.Event) {
	c.told = append(c.told, e)
}

// greet takes what octets have of the preface, and answers those behind it.
func (c *Conn) greet(b []byte) []byte {
	n := min(len(b), len(api.Preface)-len(c.opening))
	c.opening = append(c.opening, b[:n]...)
	if frame.Opening(c.opening) == api.ErrForm {
		c.fail(api.ProtocolError)
	}
	return b[n:]
}

// take takes octets behind the opening. The parser has room for some as long
// as it has no whole frame.
func (c *Conn) take(b []byte) {
	for len(b) > 0 && !c.broken {
		n := c.parser.Feed(b)
		b = b[n:]
		c.takeHeld()
	}
}

// takeHeld takes all that the parser tells.
func (c *Conn) takeHeld() {
	for !c.broken {
		f, wrong, ok := c.parser.Next()
		if !ok {
			return
		}
		c.takeNext(f, wrong)
		c.beCalm()
	}
}

// takeNext takes a frame, or what is wrong with it.
func (c *Conn) takeNext(f api.Frame, wrong api.Fault) {
	switch {
	case !wrong.Is:
		c.takeFrame(f)
	case wrong.Stream == 0:
		c.fail(wrong.Code)
	default:
		c.takeFault(wrong.Stream, wrong.Code)
	}
}

// beCalm breaks if too many control frames wait.
func (c *Conn) beCalm() {
	if frames, _ := c.turns.Len(); frames > mostControl && !c.broken {
		c.fail(api.EnhanceYourCalm)
	}
}

// takeFault takes a frame of a stream with which something is wrong.
func (c *Conn) takeFault(id int, code api.Code) {
	_, isOpen := c.blocks.Open()
	x := c.known(id)
	switch {
	case isOpen || !c.begun:
		c.fail(api.ProtocolError)
	case x != nil && x.state != stream.Closed:
		c.reset(x, code)
	case c.isNew(id):
		c.fail(code)
	}
}

func (c *Conn) takeFrame(f api.Frame) {
	if !c.begun && (f.Kind != api.Settings || f.Ack) {
		c.fail(api.ProtocolError)
		return
	}
	c.begun = true
	if f.Kind == api.Headers {
		c.early = c.isNew(f.Stream)
	}
	whole, ok, wrong := c.blocks.Step(f)
	switch {
	case wrong.Is:
		c.fail(wrong.Code)
	case ok:
		c.takeWhole(whole)
	}
}

// takeWhole takes a frame of which nothing is to follow.
func (c *Conn) takeWhole(f api.Frame) {
	switch f.Kind {
	case api.Headers:
		c.takeHeaders(f)
	case api.Data:
		c.takeData(f)
	case api.RstStream:
		c.takeReset(f)
	case api.Settings:
		c.takeSettings(f)
	case api.PushPromise:
		c.fail(api.ProtocolError)
	case api.Ping:
		c.takePing(f)
	case api.Goaway:
		c.left = true
		c.tell(api.Event{Kind: api.EvGoaway, Last: f.Last, Code: f.Code})
	case api.WindowUpdate:
		c.takeUpdate(f)
	}
}

// isNew tells whether a number is of no stream yet, for a peer: it can't know
// of one of ours whose block is still on its way out.
func (c *Conn) isNew(id int) bool {
	switch c.ids.Class(id) {
	case stream.TheirsPast:
		return false
	case stream.OursPast:
		return id > c.control.opened
	default:
		return true
	}
}

// known is the stream of a number that comes, nil if there is none, or none
// yet for the peer.
func (c *Conn) known(id int) *exchange {
	if c.isNew(id) {
		return nil
	}
	return c.find(id)
}

// living is the stream of a frame, and true; if there is none, and the number
// is new, it breaks, and that is false.
func (c *Conn) living(f api.Frame) (*exchange, bool) {
	if c.isNew(f.Stream) {
		c.fail(api.ProtocolError)
		return nil, false
	}
	return c.find(f.Stream), true
}

// step is what becomes of a stream, or of a number of none (nil), by a frame
// that came.
func (c *Conn) step(x *exchange, f api.Frame) (next, do int, code api.Code) {
	state := stream.Closed
	switch {
	case x != nil:
		state = x.state
	case slices.Contains(c.resetIDs, f.Stream):
		state = stream.ClosedOurs
	}
	return stream.Step(state, false, f.Kind, f.End)
}

// obey does what is to be done with a frame that is not taken. A number of no
// stream is never to be reset.
func (c *Conn) obey(x *exchange, do int, code api.Code) {
	switch do {
	case stream.Breaks:
		c.fail(code)
	case stream.Resets:
		c.reset(x, code)
	}
}

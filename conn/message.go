package conn

import (
	"flume/api"
	"flume/fields"
	"flume/stream"
)

const (
	// leastFinal is the first status of an answer that is not to be followed
	// by another one.
	leastFinal = 200
	// noContent and notModified are of answers that have no data, whatever
	// their fields say.
	noContent   = 204
	notModified = 304
)

// takeHeaders takes a header block. Its fields are read whatever becomes of
// it, for they change the table.
func (c *Conn) takeHeaders(f api.Frame) {
	l, e := c.decoder.Decode(f.Payload)
	if e == api.ErrForm || e == api.ErrState {
		c.fail(api.CompressionError)
		return
	}
	x, ok := c.streamOfBlock(f.Stream)
	if !ok {
		return
	}
	next, do, code := c.step(x, f)
	if do != stream.Takes {
		c.obey(x, do, code)
		return
	}
	x.state = next
	switch {
	case e == api.ErrLong:
		c.reset(x, api.EnhanceYourCalm)
	case x.in:
		c.takeTrailers(x, l, f.End)
	default:
		c.takeHead(x, l, f.End)
	}
}

// streamOfBlock is the stream of a block that came, and true, be it nil of one
// that is no more; or false, if nothing more is to be done. A block that began
// ahead of the request that it would answer is no answer, though that has gone
// out by now.
func (c *Conn) streamOfBlock(id int) (*exchange, bool) {
	switch {
	case c.server && c.ids.Class(id) == stream.TheirsNew:
		return c.accept(id)
	case c.early:
		c.fail(api.ProtocolError)
		return nil, false
	default:
		return c.find(id), true
	}
}

// accept begins a stream that a client opens, if there is room.
func (c *Conn) accept(id int) (*exchange, bool) {
	wrong := c.ids.Open(id)
	if wrong.Is || c.shut {
		c.ids.Close(id)
		c.sendReset(id, api.RefusedStream)
		return nil, false
	}
	c.turns.Open(id, c.peer.Window)
	return c.begin(id), true
}

// takeHead takes the fields with which a message begins.
func (c *Conn) takeHead(x *exchange, l []api.Field, end bool) {
	m, ok := c.message(l)
	ahead := !c.server && m.Status < leastFinal
	switch {
	case !ok || ahead && end:
		c.reset(x, api.ProtocolError)
		return
	case ahead:
		return
	}
	x.in = true
	x.length = lengthOf(x, m)
	if end && x.length > 0 {
		c.reset(x, api.ProtocolError)
		return
	}
	c.tell(api.Event{Kind: api.EvHead, Stream: x.id, Fields: l, End: end})
	c.close(x)
}

// message is what the fields of a head say that came, if they are right.
func (c *Conn) message(l []api.Field) (api.Message, bool) {
	if c.server {
		return fields.Request(l)
	}
	return fields.Response(l)
}

// lengthOf is how many octets of data are to come, noLength if that is not
// known.
func lengthOf(x *exchange, m api.Message) int {
	if x.isHead || m.Status == noContent || m.Status == notModified {
		return 0
	}
	return m.Length
}

// takeTrailers takes the fields with which a message ends.
func (c *Conn) takeTrailers(x *exchange, l []api.Field, end bool) {
	if !end || !fields.Trailers(l) || !x.mayEnd() {
		c.reset(x, api.ProtocolError)
		return
	}
	c.tell(api.Event{Kind: api.EvTrail, Stream: x.id, Fields: l, End: end})
	c.close(x)
}

// mayEnd tells whether as much came as was said.
func (x *exchange) mayEnd() bool {
	return x.length == noLength || x.came == x.length
}

// mayGoOn tells whether no more came than was said.
func (x *exchange) mayGoOn() bool {
	return x.length == noLength || x.came <= x.length
}

// takeData takes data. It all counts in the connection's credit, also of a
// stream that is no more; but nobody will consume that.
func (c *Conn) takeData(f api.Frame) {
	size := len(f.Payload) + f.Pad
	if c.credit.Got(size) != api.OK {
		c.fail(api.FlowControlError)
		return
	}
	x, ok := c.living(f)
	if !ok {
		return
	}
	next, do, code := c.step(x, f)
	if do == stream.Resets || do == stream.Ignores {
		c.freeOwn(size)
	}
	if do != stream.Takes {
		c.obey(x, do, code)
		return
	}
	if x.credit.Got(size) != api.OK {
		c.freeOwn(size)
		c.reset(x, api.FlowControlError)
		return
	}
	c.takeOctets(x, f, next)
}

// takeOctets takes data for which there is room; next is the state behind it.
func (c *Conn) takeOctets(x *exchange, f api.Frame, next int) {
	x.came += len(f.Payload)
	if !x.in || !x.mayGoOn() || f.End && !x.mayEnd() {
		c.reset(x, api.ProtocolError)
		return
	}
	x.state = next
	c.freeBoth(x, f.Pad)
	c.tell(api.Event{Kind: api.EvData, Stream: x.id, Data: f.Payload, End: f.End})
	c.close(x)
}

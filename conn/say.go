package conn

import (
	"slices"

	"flume/api"
	"flume/fields"
	"flume/stream"
)

// Request opens a stream (M3).
func (c *Conn) Request(l []api.Field, end bool) (int, api.Errno) {
	if c.broken || c.server || c.left || c.shut {
		return 0, api.ErrState
	}
	m, ok := fields.Request(l)
	if !ok {
		return 0, api.ErrArg
	}
	id, e := c.ids.Next()
	if e != api.OK {
		return 0, e
	}
	x := c.begin(id)
	x.isHead = m.Method == "HEAD"
	if !end {
		c.turns.Open(id, c.peer.Window)
	}
	c.sendBlock(x, l, end)
	c.control.opens(id)
	return id, api.OK
}

// Respond answers a request (M3).
func (c *Conn) Respond(id int, l []api.Field, end bool) api.Errno {
	x, e := c.streamToUse(id)
	if e != api.OK {
		return e
	}
	_, do, _ := stream.Step(x.state, true, api.Headers, end)
	if !c.server || x.out || do != stream.Takes {
		return api.ErrState
	}
	m, ok := fields.Response(l)
	if !ok || m.Status < leastFinal {
		return api.ErrArg
	}
	c.sendBlock(x, l, end)
	if end {
		c.turns.Drop(id)
	}
	c.close(x)
	return api.OK
}

// Data lets octets wait (M3).
func (c *Conn) Data(id int, b []byte, end bool) api.Errno {
	x, e := c.streamToSpeak(id)
	if e != api.OK {
		return e
	}
	if e := c.turns.Put(id, len(b), end); e != api.OK {
		return e
	}
	x.waits = append(x.waits, b...)
	x.ended = end
	return api.OK
}

// Trail ends a message with trailers (M3).
func (c *Conn) Trail(id int, l []api.Field) api.Errno {
	x, e := c.streamToSpeak(id)
	if e != api.OK {
		return e
	}
	if !fields.Trailers(l) {
		return api.ErrArg
	}
	x.ended = true
	x.trails = true
	x.trailer = slices.Clone(l)
	c.trail(x)
	return api.OK
}

// Reset gives a stream up (M3).
func (c *Conn) Reset(id int, code api.Code) api.Errno {
	x, e := c.streamToUse(id)
	switch {
	case e != api.OK:
		return e
	case x.state == stream.Closed:
		return api.ErrNone
	}
	c.giveUp(x, code)
	return api.OK
}

// Shutdown lets nothing more begin (M3).
func (c *Conn) Shutdown() {
	if c.broken || c.shut {
		return
	}
	c.last = c.ids.Last()
	c.shut = true
	c.send(api.Frame{Kind: api.Goaway, Last: c.last, Code: api.NoError})
}

// Consumed tells that octets that came are needed no more (M4).
func (c *Conn) Consumed(id, n int) api.Errno {
	x, e := c.streamToUse(id)
	if e != api.OK {
		return e
	}
	if c.freeBoth(x, n) != api.OK {
		return api.ErrArg
	}
	c.close(x)
	return api.OK
}

// streamToUse is the stream of a number, if there is one.
func (c *Conn) streamToUse(id int) (*exchange, api.Errno) {
	if c.broken {
		return nil, api.ErrState
	}
	x := c.find(id)
	if x == nil {
		return nil, api.ErrNone
	}
	return x, api.OK
}

// streamToSpeak is the stream of a number, if more may be said on it behind
// its head.
func (c *Conn) streamToSpeak(id int) (*exchange, api.Errno) {
	x, e := c.streamToUse(id)
	if e != api.OK {
		return nil, e
	}
	if !x.out || x.ended {
		return nil, api.ErrState
	}
	return x, api.OK
}

// trail sends trailers that were ordered, if nothing waits ahead of them. They
// are not written sooner: the blocks must go out in the order in which they
// are.
func (c *Conn) trail(x *exchange) {
	if !x.trails || len(x.waits) > 0 {
		return
	}
	c.sendBlock(x, x.trailer, true)
	c.turns.Drop(x.id)
	c.close(x)
}

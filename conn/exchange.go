package conn

import (
	"cmp"
	"slices"

	"flume/api"
	"flume/stream"
	"flume/window"
)

// mostReset is how many of the streams that were reset are remembered: what
// was under way when they were may still come.
const mostReset = 64

// noLength is the length of a message that does not tell it.
const noLength = -1

// exchange is a stream of a connection.
type exchange struct {
	id     int
	state  int
	credit *window.Credit

	in     bool // its head came
	isHead bool // it asks for no more than an answer's head
	length int
	came   int

	out     bool // its head went
	ended   bool // its end was ordered
	waits   []byte
	trails  bool // trailers were ordered
	trailer []api.Field
}

// begin makes a number that is greater than all others a stream.
func (c *Conn) begin(id int) *exchange {
	x := &exchange{
		id:     id,
		state:  stream.Idle,
		credit: window.New(c.own.Window),
		length: noLength,
	}
	c.streams = append(c.streams, x)
	return x
}

// find is the stream of a number, nil if there is none.
func (c *Conn) find(id int) *exchange {
	at, ok := c.place(id)
	if !ok {
		return nil
	}
	return c.streams[at]
}

func (c *Conn) place(id int) (int, bool) {
	return slices.BinarySearchFunc(c.streams, id, func(x *exchange, id int) int {
		return cmp.Compare(x.id, id)
	})
}

// forget makes a stream be no more.
func (c *Conn) forget(x *exchange) {
	c.turns.Drop(x.id)
	if at, ok := c.place(x.id); ok {
		c.streams = slices.Delete(c.streams, at, at+1)
	}
}

// drop ends a stream, whatever is left of it.
func (c *Conn) drop(x *exchange) {
	c.freeOwn(x.credit.Held())
	c.ids.Close(x.id)
	c.forget(x)
}

// close ends a stream that both ends have ended. As long as something of it is
// held it is kept, so that this can be consumed.
func (c *Conn) close(x *exchange) {
	if x.state != stream.Closed {
		return
	}
	c.ids.Close(x.id)
	if x.credit.Held() == 0 {
		c.forget(x)
	}
}

// giveUp tells the peer that a stream is no more.
func (c *Conn) giveUp(x *exchange, code api.Code) {
	c.sendReset(x.id, code)
	c.drop(x)
}

// sendReset sends RST_STREAM, behind which what comes on the stream counts
// as nothing.
func (c *Conn) sendReset(id int, code api.Code) {
	c.send(api.Frame{Kind: api.RstStream, Stream: id, Code: code})
	if len(c.resetIDs) == mostReset {
		c.resetIDs = slices.Delete(c.resetIDs, 0, 1)
	}
	c.resetIDs = append(c.resetIDs, id)
}

// reset answers a fault of a stream.
func (c *Conn) reset(x *exchange, code api.Code) {
	c.giveUp(x, code)
	c.tell(api.Event{Kind: api.EvReset, Stream: x.id, Code: code, End: true})
}

// fail answers a fault of the connection: it breaks.
func (c *Conn) fail(code api.Code) {
	c.send(api.Frame{Kind: api.Goaway, Last: c.lastToTell(), Code: code})
	for _, x := range c.streams {
		c.turns.Drop(x.id)
	}
	c.streams = nil
	c.broken = true
	c.tell(api.Event{Kind: api.EvBroken, Code: code})
}

// lastToTell is that of a GOAWAY: none may tell more than one ahead of it.
func (c *Conn) lastToTell() int {
	if c.shut {
		return c.last
	}
	return c.ids.Last()
}

// freeOwn frees octets of the connection's credit.
func (c *Conn) freeOwn(n int) {
	c.credit.Free(n)
	c.grant(0, c.credit)
}

// freeBoth frees octets of a stream, and of the connection. A stream whose
// peer has ended gets no more, so nothing is granted to it.
func (c *Conn) freeBoth(x *exchange, n int) api.Errno {
	if e := x.credit.Free(n); e != api.OK {
		return e
	}
	c.freeOwn(n)
	if x.state == stream.Open || x.state == stream.HalfLocal {
		c.grant(x.id, x.credit)
	}
	return api.OK
}

// grant tells the peer what is due of the credit of a stream, or (0) of the
// connection.
func (c *Conn) grant(id int, credit *window.Credit) {
	if n := credit.Give(); n > 0 {
		c.send(api.Frame{Kind: api.WindowUpdate, Stream: id, Inc: n})
	}
}

package conn

import (
	"math"

	"flume/api"
	"flume/frame"
	"flume/sched"
	"flume/stream"
)

// outgoing is the control frames on their way out, and what the peer can't
// know before they went.
type outgoing struct {
	part   []byte // what is left of one that went out in part
	put    int    // how many octets there were in all
	went   int    // how many of these went out
	heads  []head // of the requests of which not all has gone out
	opened int    // the last stream whose head has gone out
}

// head is a request's block, that has gone out when so many octets have.
type head struct {
	id, upTo int
}

// opens tells that the last one that was put opens a stream.
func (o *outgoing) opens(id int) {
	o.heads = append(o.heads, head{id: id, upTo: o.put})
}

// goes takes up to n octets of that which went out in part.
func (o *outgoing) goes(n int) []byte {
	b := o.part[:min(n, len(o.part))]
	o.part = o.part[len(b):]
	o.went += len(b)
	for len(o.heads) > 0 && o.heads[0].upTo <= o.went {
		o.opened = o.heads[0].id
		o.heads = o.heads[1:]
	}
	return b
}

// put lets octets wait as one control frame.
func (c *Conn) put(b []byte) {
	c.turns.Control(b)
	c.control.put += len(b)
}

// send sends a frame. None is made here that may not be written.
func (c *Conn) send(f api.Frame) {
	c.put(written(f))
}

func written(f api.Frame) []byte {
	b, _ := frame.Write(f)
	return b
}

// sendBlock sends fields on a stream, in as many frames as the peer's Frame
// asks for, between which no other may go.
func (c *Conn) sendBlock(x *exchange, l []api.Field, end bool) {
	left := c.encoder.Encode(l)
	f := api.Frame{Kind: api.Headers, Stream: x.id, End: end}
	var b []byte
	for !f.EndHeaders {
		n := min(len(left), c.peer.Frame)
		f.Payload, left = left[:n], left[n:]
		f.EndHeaders = len(left) == 0
		b = append(b, written(f)...)
		f.Kind, f.End = api.Continuation, false
	}
	c.put(b)
	x.say(api.Headers, end)
	x.out = true
	x.ended = end
}

// say steps a stream by what it sends.
func (x *exchange) say(kind int, end bool) {
	x.state, _, _ = stream.Step(x.state, true, kind, end)
}

// Out is up to n octets that go out (M4).
func (c *Conn) Out(n int) []byte {
	var out []byte
	for len(out) < n {
		b := c.next(n - len(out))
		if len(b) == 0 {
			break
		}
		out = append(out, b...)
	}
	return out
}

// Sent is of each DATA that went out, how many octets (M4).
func (c *Conn) Sent() []api.Sent {
	sent := c.sent
	c.sent = nil
	return sent
}

// next is what goes out next where so many octets have room, none if nothing
// does.
func (c *Conn) next(room int) []byte {
	if len(c.control.part) == 0 {
		p, ok := c.piece(room)
		if !ok {
			return nil
		}
		if p.Stream != 0 {
			return c.data(p)
		}
		c.control.part = p.Control
	}
	return c.control.goes(room)
}

// piece is what the scheduler tells. A control frame may have more octets than
// there is room, for it may go out in part.
func (c *Conn) piece(room int) (sched.Piece, bool) {
	if frames, _ := c.turns.Len(); frames > 0 {
		room = math.MaxInt
	}
	return c.turns.Next(room)
}

// data is a DATA frame of a stream's next octets.
func (c *Conn) data(p sched.Piece) []byte {
	x := c.find(p.Stream)
	b := written(api.Frame{Kind: api.Data, Stream: p.Stream, End: p.End, Payload: x.waits[:p.Octets]})
	x.waits = x.waits[p.Octets:]
	c.sent = append(c.sent, api.Sent{Stream: p.Stream, Octets: p.Octets})
	if p.End {
		x.say(api.Data, true)
		c.close(x)
	} else {
		c.trail(x)
	}
	return b
}

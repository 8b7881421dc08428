package sched

import "flume/api"

// Piece is what may be sent (K2).
type Piece struct {
	Control []byte
	Stream  int
	Octets  int
	End     bool
}

// Next is what may be sent (K2).
func (s *Sched) Next(capacity int) (Piece, bool) {
	if len(s.control) > 0 {
		return s.nextControl(capacity)
	}
	return s.nextData(capacity)
}

// nextControl is the first control frame that waits. Nothing overtakes it, even
// if it has no room: data may be ruled by what it says.
func (s *Sched) nextControl(capacity int) (Piece, bool) {
	if len(s.control[0]) > capacity {
		return Piece{}, false
	}
	var p Piece
	p.Control, s.control = takeOut(s.control, 0)
	return p, true
}

// nextData is what the first stream that is ready may send.
func (s *Sched) nextData(capacity int) (Piece, bool) {
	at := s.firstReady()
	if at < 0 || capacity < api.FrameHead {
		return Piece{}, false
	}
	octets := s.most(s.queue[at], capacity-api.FrameHead)
	if octets == 0 && s.queue[at].waits > 0 {
		return Piece{}, false
	}
	return s.serve(at, octets), true
}

// serve sends octets of the stream at a place of the queue.
func (s *Sched) serve(at, octets int) Piece {
	var x stream
	x, s.queue = takeOut(s.queue, at)
	x.waits -= octets
	x.window -= octets
	s.window -= octets
	ends := x.end && x.waits == 0
	if !ends {
		s.queue = append(s.queue, x)
	}
	return Piece{Stream: x.id, Octets: octets, End: ends}
}

// firstReady is where the first stream that is ready stands in the queue, -1
// if none is.
func (s *Sched) firstReady() int {
	first := -1
search:
	for at, x := range s.queue {
		switch {
		// An end alone needs no window.
		case x.waits == 0 && x.end, x.waits > 0 && x.window > 0 && s.window > 0:
			first = at
			break search
		}
	}
	return first
}

// most is how many octets of a stream may be sent at once where so many have
// room. It is held to 0, for one that has nothing but its end to send is ready
// even if a window is below that.
func (s *Sched) most(x stream, room int) int {
	return max(0, min(x.waits, x.window, s.window, s.frame, room))
}

package stream

import "flume/api"

// Ids are the streams of a connection (I2).
type Ids struct {
	server bool
	last   int
	// next is the least of ours that is new.
	next   int
	theirs group
	ours   group
}

// group is the active streams that one end has opened, and how many may be.
type group struct {
	active map[int]struct{}
	most   int
}

func newGroup(most int) group {
	g := group{active: map[int]struct{}{}}
	g.setMost(most)
	return g
}

func (g *group) setMost(n int) {
	g.most = max(0, n)
}

// isFull tells whether no more may be active. There may be more than most, if
// it was greater when they were opened.
func (g *group) isFull() bool {
	return len(g.active) >= g.most
}

func (g *group) add(id int) {
	g.active[id] = struct{}{}
}

// remove tells whether a stream was there.
func (g *group) remove(id int) bool {
	_, ok := g.active[id]
	delete(g.active, id)
	return ok
}

// NewIds are those of a new one (I2).
func NewIds(server bool, most int) *Ids {
	return &Ids{
		server: server,
		next:   choose(server, 2, 1),
		theirs: newGroup(most),
		ours:   newGroup(api.MostStream),
	}
}

// SetMost sets how many of theirs may be active (I2).
func (s *Ids) SetMost(n int) {
	s.theirs.setMost(n)
}

// Limit sets how many of ours may be active (I2).
func (s *Ids) Limit(n int) {
	s.ours.setMost(n)
}

// Class is a number's class (I2).
func (s *Ids) Class(id int) int {
	switch {
	case id < 1 || id > api.MostStream:
		return None
	case s.areTheirs(id):
		return choose(id > s.last, TheirsNew, TheirsPast)
	default:
		return choose(id >= s.next, OursNew, OursPast)
	}
}

// areTheirs tells whether a number is one of those that the other end opens.
func (s *Ids) areTheirs(id int) bool {
	odd := id%2 != 0
	return odd == s.server
}

// Open is the other end's opening of a stream (I2). One that is refused counts
// as opened too, so that its number isn't new again.
func (s *Ids) Open(id int) api.Fault {
	if s.Class(id) != TheirsNew {
		return api.Fault{Is: true, Code: api.ProtocolError}
	}
	s.last = id
	if s.theirs.isFull() {
		return api.Fault{Is: true, Code: api.RefusedStream, Stream: id}
	}
	s.theirs.add(id)
	return api.Fault{}
}

// Next is the next one of ours (I2).
func (s *Ids) Next() (int, api.Errno) {
	if s.ours.isFull() {
		return 0, api.ErrFull
	}
	if s.next > api.MostStream {
		return 0, api.ErrRange
	}
	id := s.next
	s.next += 2
	s.ours.add(id)
	return id, api.OK
}

// Close is a stream's end (I2).
func (s *Ids) Close(id int) api.Errno {
	if !s.groupOf(id).remove(id) {
		return api.ErrNone
	}
	return api.OK
}

func (s *Ids) groupOf(id int) *group {
	if s.areTheirs(id) {
		return &s.theirs
	}
	return &s.ours
}

// Last is the number of theirs that was opened last (I2).
func (s *Ids) Last() int {
	return s.last
}

// Active is how many of theirs are active, and of ours (I2).
func (s *Ids) Active() (int, int) {
	return len(s.theirs.active), len(s.ours.active)
}

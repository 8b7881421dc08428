package stream_test

import (
	"math"
	"math/rand"
	"testing"

	"flume/api"
	"flume/stream"
)

const most = math.MaxInt32

// has asks for all of Ids that can be seen but classes.
func has(t *testing.T, s *stream.Ids, last, theirs, ours int) {
	t.Helper()
	a, b := s.Active()
	if s.Last() != last || a != theirs || b != ours {
		t.Errorf("Last %d, Active %d, %d; want %d, %d, %d", s.Last(), a, b, last, theirs, ours)
	}
}

// open, next, closes and class hold what one call answers against what is
// asked.
func open(t *testing.T, s *stream.Ids, id int, want api.Fault) {
	t.Helper()
	if x := s.Open(id); x != want {
		t.Errorf("Open of %d: %v; want %v", id, x, want)
	}
}

func next(t *testing.T, s *stream.Ids, want int, wantError api.Errno) {
	t.Helper()
	if id, e := s.Next(); id != want || e != wantError {
		t.Errorf("Next: %d, %v; want %d, %v", id, e, want, wantError)
	}
}

func closes(t *testing.T, s *stream.Ids, id int, want api.Errno) {
	t.Helper()
	if e := s.Close(id); e != want {
		t.Errorf("Close of %d: %v; want %v", id, e, want)
	}
}

func class(t *testing.T, s *stream.Ids, id, want int) {
	t.Helper()
	if n := s.Class(id); n != want {
		t.Errorf("Class of %d: %d; want %d", id, n, want)
	}
}

var (
	none  = api.Fault{}
	wrong = api.Fault{Is: true, Code: api.ProtocolError}
)

// refused is that a stream may not be opened yet.
func refused(id int) api.Fault {
	return api.Fault{Is: true, Code: api.RefusedStream, Stream: id}
}

// notOfStreams are numbers that no stream has.
var notOfStreams = []int{0, -1, -2, -3, most + 1, most + 2, 1<<32 + 1, 1<<32 + 2, math.MaxInt, math.MaxInt - 1, math.MinInt, math.MinInt + 1}

func TestIdsOfExample(t *testing.T) {
	s := stream.NewIds(true, 1)
	open(t, s, 3, none)
	open(t, s, 1, wrong)
	open(t, s, 5, refused(5))
	has(t, s, 5, 1, 0)
	next(t, s, 2, api.OK)
	has(t, s, 5, 1, 1)
}

func TestIdsAtFirst(t *testing.T) {
	server, client := stream.NewIds(true, 1), stream.NewIds(false, 1)
	has(t, server, 0, 0, 0)
	has(t, client, 0, 0, 0)
	for _, id := range []int{1, 3, 5, 99, most} {
		class(t, server, id, stream.TheirsNew)
		class(t, client, id, stream.OursNew)
	}
	for _, id := range []int{2, 4, 6, 100, most - 1} {
		class(t, server, id, stream.OursNew)
		class(t, client, id, stream.TheirsNew)
	}
	for _, id := range notOfStreams {
		class(t, server, id, stream.None)
		class(t, client, id, stream.None)
	}
	for id := range 10 {
		closes(t, server, id, api.ErrNone)
		closes(t, client, id, api.ErrNone)
	}
}

func TestClassOfTheirs(t *testing.T) {
	s := stream.NewIds(true, 10)
	open(t, s, 7, none)
	// All that stand below are past too, though none of them was opened.
	for _, id := range []int{1, 3, 5, 7} {
		class(t, s, id, stream.TheirsPast)
	}
	class(t, s, 9, stream.TheirsNew)
	class(t, s, most, stream.TheirsNew)
	closes(t, s, 7, api.OK)
	class(t, s, 7, stream.TheirsPast)
	open(t, s, most, none)
	class(t, s, most, stream.TheirsPast)
	class(t, s, most-2, stream.TheirsPast)
	class(t, s, 2, stream.OursNew)
}

func TestClassOfOurs(t *testing.T) {
	s := stream.NewIds(false, 10)
	next(t, s, 1, api.OK)
	class(t, s, 1, stream.OursPast)
	class(t, s, 3, stream.OursNew)
	next(t, s, 3, api.OK)
	class(t, s, 3, stream.OursPast)
	class(t, s, 5, stream.OursNew)
	closes(t, s, 1, api.OK)
	closes(t, s, 3, api.OK)
	class(t, s, 1, stream.OursPast)
	class(t, s, 3, stream.OursPast)
	class(t, s, 2, stream.TheirsNew)
}

func TestOpen(t *testing.T) {
	s := stream.NewIds(true, 2)
	open(t, s, 3, none)
	has(t, s, 3, 1, 0)
	open(t, s, 9, none)
	has(t, s, 9, 2, 0)
	// Full; but the number is spent all the same.
	open(t, s, 11, refused(11))
	has(t, s, 11, 2, 0)
	open(t, s, 11, wrong)
	open(t, s, 10, wrong)
	has(t, s, 11, 2, 0)
	closes(t, s, 11, api.ErrNone)
	// One that ends makes room for one.
	closes(t, s, 3, api.OK)
	open(t, s, 13, none)
	open(t, s, 15, refused(15))
	has(t, s, 15, 2, 0)
}

// What may not be opened changes nothing, full or not.
func TestOpenOfWrongOnes(t *testing.T) {
	for _, room := range []int{2, 1} {
		s := stream.NewIds(false, room)
		open(t, s, 6, none)
		next(t, s, 1, api.OK)
		for _, id := range append(notOfStreams, 1, 2, 3, 4, 5, 6, 7, 9, most) {
			open(t, s, id, wrong)
			has(t, s, 6, 1, 1)
		}
		class(t, s, 8, stream.TheirsNew)
		next(t, s, 3, api.OK)
	}
}

func TestOpenOfTheGreatest(t *testing.T) {
	s := stream.NewIds(true, 5)
	open(t, s, most-2, none)
	open(t, s, most, none)
	has(t, s, most, 2, 0)
	open(t, s, most+2, wrong)
	s = stream.NewIds(false, 5)
	open(t, s, most-1, none)
	open(t, s, most+1, wrong)
	has(t, s, most-1, 1, 0)
}

// Less than 0 may be said, and counts as 0; and there is no greatest number.
func TestMost(t *testing.T) {
	for _, n := range []int{0, -1, -most, math.MinInt} {
		s := stream.NewIds(true, n)
		open(t, s, 1, refused(1))
		has(t, s, 1, 0, 0)
		s.SetMost(1)
		open(t, s, 3, none)
		closes(t, s, 3, api.OK)
		s.SetMost(n)
		open(t, s, 5, refused(5))
	}
	for _, n := range []int{most, most + 1, math.MaxInt} {
		s := stream.NewIds(true, n)
		open(t, s, 1, none)
		s.SetMost(n)
		open(t, s, 3, none)
		has(t, s, 3, 2, 0)
	}
}

// Those that are active stay so, however few may be.
func TestSetMostBelowActive(t *testing.T) {
	s := stream.NewIds(true, 3)
	for id := 1; id <= 5; id += 2 {
		open(t, s, id, none)
	}
	s.SetMost(1)
	has(t, s, 5, 3, 0)
	open(t, s, 7, refused(7))
	closes(t, s, 1, api.OK)
	open(t, s, 9, refused(9))
	closes(t, s, 3, api.OK)
	open(t, s, 11, refused(11))
	closes(t, s, 5, api.OK)
	open(t, s, 13, none)
	has(t, s, 13, 1, 0)
}

func TestNext(t *testing.T) {
	server, client := stream.NewIds(true, 0), stream.NewIds(false, 0)
	// Many, for at first there is no bound that could be reached here.
	for i := range 70000 {
		next(t, server, 2+2*i, api.OK)
		next(t, client, 1+2*i, api.OK)
	}
	has(t, server, 0, 0, 70000)
	has(t, client, 0, 0, 70000)
	// What has ended is not new again.
	closes(t, server, 2, api.OK)
	closes(t, server, 140000, api.OK)
	next(t, server, 140002, api.OK)
	has(t, server, 0, 0, 69999)
}

func TestLimit(t *testing.T) {
	s := stream.NewIds(false, 0)
	for _, n := range []int{0, -1, math.MinInt} {
		s.Limit(n)
		next(t, s, 0, api.ErrFull)
		has(t, s, 0, 0, 0)
	}
	s.Limit(2)
	next(t, s, 1, api.OK)
	next(t, s, 3, api.OK)
	next(t, s, 0, api.ErrFull)
	// A number is not spent by what isn't told.
	class(t, s, 5, stream.OursNew)
	s.Limit(1)
	has(t, s, 0, 0, 2)
	closes(t, s, 1, api.OK)
	next(t, s, 0, api.ErrFull)
	closes(t, s, 3, api.OK)
	next(t, s, 5, api.OK)
	next(t, s, 0, api.ErrFull)
	s.Limit(most)
	next(t, s, 7, api.OK)
	s.Limit(math.MaxInt)
	next(t, s, 9, api.OK)
	has(t, s, 0, 0, 3)
}

// Most counts theirs alone, and Limit ours.
func TestBoundsAreApart(t *testing.T) {
	s := stream.NewIds(true, 1)
	s.Limit(1)
	open(t, s, 1, none)
	next(t, s, 2, api.OK)
	open(t, s, 3, refused(3))
	next(t, s, 0, api.ErrFull)
	closes(t, s, 2, api.OK)
	open(t, s, 5, refused(5))
	next(t, s, 4, api.OK)
	closes(t, s, 1, api.OK)
	next(t, s, 0, api.ErrFull)
	open(t, s, 7, none)
	s.SetMost(2)
	next(t, s, 0, api.ErrFull)
	s.SetMost(1)
	s.Limit(2)
	open(t, s, 9, refused(9))
	next(t, s, 6, api.OK)
	has(t, s, 9, 1, 2)
}

// No number is above MostStream; and too many active ones are told first.
func TestNextAtTheEnd(t *testing.T) {
	for _, c := range []struct {
		server bool
		last   int
	}{{true, most - 1}, {false, most}} {
		s := stream.NewIds(c.server, 0)
		s.SkipTo(c.last - 2)
		next(t, s, c.last-2, api.OK)
		class(t, s, c.last, stream.OursNew)
		next(t, s, c.last, api.OK)
		class(t, s, c.last, stream.OursPast)
		next(t, s, 0, api.ErrRange)
		has(t, s, 0, 0, 2)
		s.Limit(2)
		next(t, s, 0, api.ErrFull)
		closes(t, s, c.last, api.OK)
		next(t, s, 0, api.ErrRange)
		class(t, s, c.last, stream.OursPast)
		has(t, s, 0, 0, 1)
	}
}

func TestClose(t *testing.T) {
	s := stream.NewIds(false, 10)
	open(t, s, 4, none)
	next(t, s, 1, api.OK)
	next(t, s, 3, api.OK)
	for _, id := range append(notOfStreams, 2, 5, 6, 7, most, most-1) {
		closes(t, s, id, api.ErrNone)
		has(t, s, 4, 1, 2)
	}
	closes(t, s, 1, api.OK)
	has(t, s, 4, 1, 1)
	closes(t, s, 1, api.ErrNone)
	closes(t, s, 4, api.OK)
	has(t, s, 4, 0, 1)
	closes(t, s, 4, api.ErrNone)
	closes(t, s, 3, api.OK)
	has(t, s, 4, 0, 0)
}

// Two ends of their own have nothing to do with each other.
func TestIdsAreApart(t *testing.T) {
	a, b := stream.NewIds(true, 1), stream.NewIds(true, 1)
	open(t, a, 5, none)
	next(t, a, 2, api.OK)
	a.Limit(0)
	a.SetMost(0)
	has(t, b, 0, 0, 0)
	closes(t, b, 5, api.ErrNone)
	open(t, b, 1, none)
	next(t, b, 2, api.OK)
	closes(t, b, 2, api.OK)
	has(t, a, 5, 1, 1)
}

// together is Ids and its model, of which the same is asked.
type together struct {
	s *stream.Ids
	m *model
}

// step makes one call by what is drawn.
func (x together) step(t *testing.T, r *rand.Rand) {
	t.Helper()
	id := r.Intn(8) - 2 + max(x.s.Last(), len(x.m.told)*2)*r.Intn(2)
	switch r.Intn(12) {
	case 0:
		n := r.Intn(6) - 1
		x.s.SetMost(n)
		x.m.most = n
	case 1:
		n := r.Intn(6) - 1
		x.s.Limit(n)
		x.m.limit = n
	case 2, 3, 4, 5:
		open(t, x.s, id, x.m.open(id))
	case 6, 7, 8:
		id, e := x.m.next()
		next(t, x.s, id, e)
	default:
		if len(x.m.active) > 0 && r.Intn(2) == 0 {
			id = x.m.active[r.Intn(len(x.m.active))]
		}
		closes(t, x.s, id, x.m.close(id))
	}
}

// look holds all that can be seen of both against each other.
func (x together) look(t *testing.T) {
	t.Helper()
	has(t, x.s, x.m.last(), x.m.count(true), x.m.count(false))
	end := max(x.m.last(), len(x.m.told)*2)
	for id := end - 8; id < end+8; id++ {
		class(t, x.s, id, x.m.class(id))
	}
}

func TestIdsAreAsTheModel(t *testing.T) {
	r := rand.New(rand.NewSource(1))
	for range 2000 {
		server, n := r.Intn(2) == 0, r.Intn(6)-1
		x := together{stream.NewIds(server, n), newModel(server, n)}
		for range 60 {
			x.step(t, r)
			x.look(t)
		}
		if t.Failed() {
			return
		}
	}
}

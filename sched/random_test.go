package sched_test

import (
	"math"
	"math/rand"
	"testing"

	"flume/api"
	"flume/sched"
)

// call is one call of a scheduler.
type call struct {
	which  int
	id, n  int
	end    bool
	octets string
}

// Which of the calls it is.
const (
	callSetFrame = iota
	callControl
	callOpen
	callPut
	callGrant
	callDrop
	callNext
)

// step does a call with both, and holds their answers together.
func step(t *testing.T, s *sched.Sched, m *model, c call) {
	t.Helper()
	switch c.which {
	case callSetFrame:
		s.SetFrame(c.n)
		m.setFrame(c.n)
	case callControl:
		s.Control([]byte(c.octets))
		m.putControl(c.octets)
	case callOpen:
		opens(t, s, c.id, c.n, m.open(c.id, c.n))
	case callPut:
		puts(t, s, c.id, c.n, c.end, m.put(c.id, c.n, c.end))
	case callGrant:
		grants(t, s, c.id, c.n, m.grant(c.id, c.n))
	case callDrop:
		drops(t, s, c.id, m.drop(c.id))
	case callNext:
		p, ok := m.next(c.n)
		nexts(t, s, c.n, p, ok)
	}
}

// agree holds all that can be seen of both together, of some streams.
func agree(t *testing.T, s *sched.Sched, m *model, ids []int) {
	t.Helper()
	has(t, s, len(m.control)-m.told, len(m.streams), m.granted-m.sent)
	for _, id := range ids {
		if x := m.streams[id]; x != nil {
			waits(t, s, id, x.put-x.sent, x.granted-x.sent)
		} else {
			isNone(t, s, id)
		}
	}
}

// fewCalls are calls of two streams that get in each other's way.
var fewCalls = []call{
	{which: callOpen, id: 1, n: 3}, {which: callOpen, id: 2, n: -1},
	{which: callPut, id: 1, n: 4}, {which: callPut, id: 2, n: 2},
	{which: callPut, id: 1, end: true}, {which: callPut, id: 2, n: 1, end: true},
	{which: callGrant, id: 1, n: 2}, {which: callGrant, id: 2, n: 3},
	{which: callGrant, n: 1 - 65535}, {which: callGrant, n: 2},
	{which: callDrop, id: 1}, {which: callControl, octets: "0123456789"},
	{which: callNext, n: 9}, {which: callNext, n: 11}, {which: callSetFrame, n: 1},
}

// All rows of five of these calls, behind which all that may go out goes out.
func TestSchedIsAsThePlainModelOnAllRowsOfFewCalls(t *testing.T) {
	const length = 5
	rows := 1
	for range length {
		rows *= len(fewCalls)
	}
	for row := range rows {
		s, m := sched.New(2), newModel(2)
		for left := row; left > 0; left /= len(fewCalls) {
			step(t, s, m, fewCalls[left%len(fewCalls)])
		}
		agree(t, s, m, []int{0, 1, 2, 3})
		for range 6 {
			step(t, s, m, call{which: callNext, n: 100})
		}
		agree(t, s, m, []int{0, 1, 2, 3})
		if t.Failed() {
			t.Fatalf("row %d", row)
		}
	}
}

// edges are numbers at which the chapter turns, and what may not be.
var edges = []int{
	math.MinInt, math.MinInt + 1, -1 << 33, -1 << 32, -2*most - 1, -2 * most, -most - 1, -most, 1 - most,
	-65535, -9, -1, 0, 1, 8, 9, 10, 65535, 65536, 1<<24 - 1, 1 << 24,
	most - 1, most, most + 1, 2 * most, 2*most + 1, 1 << 32, 1 << 33, math.MaxInt - 1, math.MaxInt,
}

// someNumber is mostly small, and at times at an edge.
func someNumber(r *rand.Rand) int {
	if r.Intn(12) == 0 {
		return edges[r.Intn(len(edges))]
	}
	return r.Intn(60) - 5
}

func someCall(r *rand.Rand, ids int) call {
	c := call{which: r.Intn(10), id: 1 + r.Intn(ids), n: someNumber(r), end: r.Intn(8) == 0}
	if r.Intn(10) == 0 {
		c.id = someNumber(r)
	}
	if r.Intn(6) == 0 {
		c.n = 0
	}
	// Most calls are Next, so that what waits goes out.
	c.which = min(c.which, callNext)
	if c.which == callControl {
		c.octets = "control frames wait"[:r.Intn(20)]
	}
	return c
}

func TestSchedIsAsThePlainModel(t *testing.T) {
	r := rand.New(rand.NewSource(1))
	for range 4000 {
		frame, ids := someNumber(r), 1+r.Intn(8)
		s, m := sched.New(frame), newModel(frame)
		if r.Intn(2) == 0 {
			step(t, s, m, call{which: callGrant, n: r.Intn(100) - 65535})
		}
		seen := []int{0, 1, 2, 3, 4, 5, 6, 7, 8}
		for range 150 {
			c := someCall(r, ids)
			step(t, s, m, c)
			agree(t, s, m, append(seen, c.id))
		}
		if t.Failed() {
			t.FailNow()
		}
	}
}

// Many streams and frames at once, so that lists grow and are emptied.
func TestSchedIsAsThePlainModelWithManyStreams(t *testing.T) {
	r := rand.New(rand.NewSource(2))
	for range 3 {
		s, m := sched.New(20), newModel(20)
		for id := 1; id <= 700; id++ {
			step(t, s, m, call{which: callControl, octets: "frame of " + string(rune('a'+id%26))})
			step(t, s, m, call{which: callOpen, id: id, n: r.Intn(90)})
			step(t, s, m, call{which: callPut, id: id, n: r.Intn(90), end: r.Intn(3) == 0})
		}
		for range 5000 {
			id := 1 + r.Intn(700)
			step(t, s, m, call{which: callNext, n: r.Intn(50)})
			if r.Intn(4) == 0 {
				step(t, s, m, call{which: callGrant, id: id, n: r.Intn(30)})
			}
			if r.Intn(20) == 0 {
				step(t, s, m, call{which: callDrop, id: id})
			}
			agree(t, s, m, []int{id})
		}
		if t.Failed() {
			t.FailNow()
		}
	}
}

// sums are what was put and granted of one, and what was sent.
type sums struct{ put, granted, sent int }

// What is sent on a stream is no more than was put, and granted; the same of
// all together and the connection.
func TestSentIsNoMoreThanPutAndGranted(t *testing.T) {
	r := rand.New(rand.NewSource(3))
	for range 300 {
		s := sched.New(1 + r.Intn(30))
		all := sums{granted: 65535}
		if n := r.Intn(300) - 65535; s.Grant(0, n) == api.OK {
			all.granted += n
		}
		var of [7]sums
		for id := 1; id <= 6; id++ {
			of[id].granted = r.Intn(100) - 30
			opens(t, s, id, of[id].granted, api.OK)
		}
		for range 200 {
			id, n := 1+r.Intn(6), r.Intn(40)
			switch r.Intn(4) {
			case 0:
				if s.Put(id, n, false) == api.OK {
					of[id].put += n
					all.put += n
				}
			case 1:
				if s.Grant(id, n-10) == api.OK {
					of[id].granted += n - 10
				}
			case 2:
				if s.Grant(0, n-20) == api.OK {
					all.granted += n - 20
				}
			default:
				// What was granted may be taken back, but what went is gone.
				p, ok := s.Next(n)
				of[p.Stream].sent += p.Octets
				all.sent += p.Octets
				x := of[p.Stream]
				if ok && (p.Octets < 1 || x.sent > x.put || x.sent > x.granted || all.sent > all.granted || all.sent > all.put) {
					t.Fatalf("%v: of it %v, of all %v", p, x, all)
				}
			}
		}
	}
}

// While a stream is ready, no other one is served twice ahead of it.
func TestNoneIsServedTwiceAheadOfAReadyOne(t *testing.T) {
	r := rand.New(rand.NewSource(4))
	for range 300 {
		s := sched.New(1 + r.Intn(5))
		for _, id := range r.Perm(6) {
			opens(t, s, id+1, 1000, api.OK)
		}
		// ahead is, of each stream, how often each other one was served since
		// it is ready and was not served.
		var ahead [7][7]int
		for range 200 {
			puts(t, s, 1+r.Intn(6), r.Intn(4), false, api.OK)
			p, _ := s.Next(9 + r.Intn(5))
			if p.Stream == 0 {
				continue
			}
			for id := 1; id <= 6; id++ {
				if octets, _, _ := s.Wait(id); octets == 0 || id == p.Stream {
					ahead[id] = [7]int{}
					continue
				}
				ahead[id][p.Stream]++
				if ahead[id][p.Stream] > 1 {
					t.Fatalf("%d was served twice ahead of %d", p.Stream, id)
				}
			}
		}
	}
}

// What was put goes out whole, with its end, if windows let it.
func TestAllThatWasPutGoes(t *testing.T) {
	r := rand.New(rand.NewSource(5))
	for range 300 {
		s := sched.New(1 + r.Intn(20))
		var left [9]int
		for id := 1; id <= 8; id++ {
			left[id] = r.Intn(200)
			opens(t, s, id, 200, api.OK)
			puts(t, s, id, left[id], true, api.OK)
		}
		ends := 0
		for {
			p, ok := s.Next(10 + r.Intn(30))
			if !ok {
				break
			}
			left[p.Stream] -= p.Octets
			if p.End {
				ends++
			}
			if p.End != (left[p.Stream] == 0) {
				t.Fatalf("%v, of which %d are left", p, left[p.Stream])
			}
		}
		if left != [9]int{} || ends != 8 {
			t.Fatalf("left %v, %d ends", left, ends)
		}
		if a, b := s.Len(); a != 0 || b != 0 {
			t.Fatalf("Len %d, %d", a, b)
		}
	}
}

// The same calls have the same answers: R4.
func TestSameCallsSameAnswers(t *testing.T) {
	told := func() []int {
		r := rand.New(rand.NewSource(6))
		s := sched.New(20)
		var out []int
		for range 3000 {
			c := someCall(r, 6)
			out = append(out, int(s.Open(c.id, c.n)), int(s.Put(c.id, c.n, c.end)), int(s.Grant(c.id, c.n)))
			p, _ := s.Next(c.n)
			frames, streams := s.Len()
			out = append(out, p.Stream, p.Octets, frames, streams, s.Window())
		}
		return out
	}
	a, b := told(), told()
	for i := range a {
		if a[i] != b[i] {
			t.Fatalf("answer %d: %d and %d", i, a[i], b[i])
		}
	}
}

func FuzzSched(f *testing.F) {
	f.Add(2, []byte{0x21, 0x20, 0x31, 0x28, 0x60, 0x7f})
	f.Add(10, []byte{0x10, 0x44, 0x21, 0xff, 0x31, 0x80, 0x51, 0x00})
	f.Fuzz(func(t *testing.T, frame int, calls []byte) {
		s, m := sched.New(frame), newModel(frame)
		for len(calls) >= 2 {
			c := call{which: int(calls[0]>>4) % 7, id: int(calls[0] & 7), n: int(int8(calls[1])), end: calls[0]&8 != 0}
			c.octets = "frame"[:int(calls[1])%6]
			step(t, s, m, c)
			agree(t, s, m, []int{0, 1, 2, 3, 4, 5, 6, 7})
			calls = calls[2:]
		}
	})
}

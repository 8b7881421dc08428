package sched_test

import (
	"math"
	"runtime"
	"testing"
	"weak"

	"flume/api"
	"flume/sched"
)

func TestExample(t *testing.T) {
	s := sched.New(10)
	opens(t, s, 1, 100, api.OK)
	opens(t, s, 3, 100, api.OK)
	puts(t, s, 1, 15, true, api.OK)
	puts(t, s, 3, 5, false, api.OK)
	data(t, s, 30, 1, 10, false)
	data(t, s, 30, 3, 5, false)
	data(t, s, 30, 1, 5, true)
	none(t, s, 30)
	s.Control([]byte("ping"))
	none(t, s, 3)
	control(t, s, 4, "ping")
	opens(t, s, 5, 0, api.OK)
	puts(t, s, 5, 3, false, api.OK)
	none(t, s, 30)
	puts(t, s, 5, 0, true, api.OK)
	grants(t, s, 5, 2, api.OK)
	data(t, s, 30, 5, 2, false)
	grants(t, s, 5, 1, api.OK)
	data(t, s, 30, 5, 1, true)
}

func TestNewHasNothing(t *testing.T) {
	s := sched.New(16384)
	has(t, s, 0, 0, 65535)
	none(t, s, math.MaxInt)
	for _, id := range []int{math.MinInt, -1, 0, 1, 2, 3, most, math.MaxInt} {
		isNone(t, s, id)
	}
}

// frames are numbers of octets that a frame may be asked to have, and how many
// it has then.
var frames = [][2]int{
	{1, 1}, {2, 2}, {10, 10}, {16384, 16384}, {1<<24 - 2, 1<<24 - 2}, {1<<24 - 1, 1<<24 - 1},
	{0, 1}, {-1, 1}, {-16384, 1}, {math.MinInt, 1},
	{1 << 24, 1<<24 - 1}, {most, 1<<24 - 1}, {math.MaxInt, 1<<24 - 1},
}

func TestFrameOfNew(t *testing.T) {
	for _, c := range frames {
		s := sched.New(c[0])
		grants(t, s, 0, most-65535, api.OK)
		opens(t, s, 1, most, api.OK)
		puts(t, s, 1, 1<<26, false, api.OK)
		data(t, s, 1<<27, 1, c[1], false)
		data(t, s, 1<<27, 1, c[1], false)
		has(t, s, 0, 1, most-2*c[1])
	}
}

func TestSetFrame(t *testing.T) {
	for _, c := range frames {
		s := holding(t, 1, most, 1<<26, false)
		grants(t, s, 0, most-65535, api.OK)
		data(t, s, 1<<27, 1, 1<<20, false)
		s.SetFrame(c[0])
		has(t, s, 0, 1, most-1<<20)
		data(t, s, 1<<27, 1, c[1], false)
		s.SetFrame(7)
		data(t, s, 1<<27, 1, 7, false)
	}
}

// A frame's bound is the octets' of streams, not that of control frames.
func TestControlFramesMayBeLongerThanFrame(t *testing.T) {
	s := sched.New(1)
	s.Control([]byte("longer"))
	control(t, s, 6, "longer")
}

func TestControlFramesKeepTheirOrder(t *testing.T) {
	s := sched.New(10)
	for i, b := range []string{"a", "bb", "a", "c", "dddd"} {
		has(t, s, i, 0, 65535)
		s.Control([]byte(b))
	}
	has(t, s, 5, 0, 65535)
	control(t, s, 100, "a")
	control(t, s, 100, "bb")
	s.Control([]byte("e"))
	has(t, s, 4, 0, 65535)
	for _, b := range []string{"a", "c", "dddd", "e"} {
		control(t, s, 100, b)
	}
	has(t, s, 0, 0, 65535)
	none(t, s, 100)
}

func TestControlWithoutOctetsIsNothing(t *testing.T) {
	s := sched.New(10)
	s.Control(nil)
	s.Control([]byte{})
	has(t, s, 0, 0, 65535)
	none(t, s, 100)
	s.Control([]byte{0})
	s.Control(nil)
	has(t, s, 1, 0, 65535)
	control(t, s, 100, "\x00")
	none(t, s, 100)
}

func TestOpen(t *testing.T) {
	for _, id := range []int{1, 2, 3, 99, most - 1, most} {
		for _, window := range []int{-most, 1 - most, -1, 0, 1, 65535, most - 1, most} {
			s := sched.New(10)
			opens(t, s, id, window, api.OK)
			waits(t, s, id, 0, window)
			has(t, s, 0, 1, 65535)
			none(t, s, 100)
		}
	}
}

func TestOpenOfWhatMayNotBe(t *testing.T) {
	s := with(t, 5, 1)
	for _, id := range []int{math.MinInt, -most, -1, 0, most + 1, 1<<32 + 1, math.MaxInt} {
		opens(t, s, id, 5, api.ErrArg)
		isNone(t, s, id)
	}
	for _, window := range []int{math.MinInt, -most - 2, -most - 1, most + 1, 1 << 32, math.MaxInt} {
		opens(t, s, 3, window, api.ErrArg)
		isNone(t, s, 3)
		// That is said ahead of there being this stream already.
		opens(t, s, 1, window, api.ErrArg)
	}
	waits(t, s, 1, 0, 5)
	has(t, s, 0, 1, 65535)
}

func TestOpenTwice(t *testing.T) {
	s := with(t, 5, 1, 3, 5)
	puts(t, s, 3, 2, false, api.OK)
	for _, id := range []int{1, 3, 5} {
		opens(t, s, id, 5, api.ErrState)
		opens(t, s, id, 77, api.ErrState)
	}
	waits(t, s, 1, 0, 5)
	waits(t, s, 3, 2, 5)
	waits(t, s, 5, 0, 5)
	has(t, s, 0, 3, 65535)
}

// A number whose stream is no more may be opened again, and is as new.
func TestOpenAgain(t *testing.T) {
	s := holding(t, 3, 9, 4, true)
	data(t, s, 100, 3, 4, true)
	opens(t, s, 3, 7, api.OK)
	waits(t, s, 3, 0, 7)
	puts(t, s, 3, 2, true, api.OK)
	drops(t, s, 3, api.OK)
	opens(t, s, 3, 8, api.OK)
	waits(t, s, 3, 0, 8)
	none(t, s, 100)
	puts(t, s, 3, 1, false, api.OK)
	data(t, s, 100, 3, 1, false)
}

func TestPut(t *testing.T) {
	s := with(t, 5, 1, 3)
	puts(t, s, 1, 0, false, api.OK)
	waits(t, s, 1, 0, 5)
	puts(t, s, 1, 7, false, api.OK)
	waits(t, s, 1, 7, 5)
	puts(t, s, 1, 0, false, api.OK)
	puts(t, s, 1, 1000, false, api.OK)
	waits(t, s, 1, 1007, 5)
	waits(t, s, 3, 0, 5)
	puts(t, s, 1, 3, true, api.OK)
	waits(t, s, 1, 1010, 5)
	has(t, s, 0, 2, 65535)
}

func TestPutUpToMost(t *testing.T) {
	for _, first := range []int{0, 1, 1000, most - 1, most} {
		s := with(t, 5, 1)
		puts(t, s, 1, first, false, api.OK)
		if first > 0 {
			puts(t, s, 1, most-first+1, false, api.ErrLong)
			puts(t, s, 1, most-first+1, true, api.ErrLong)
			puts(t, s, 1, most, true, api.ErrLong)
		}
		waits(t, s, 1, first, 5)
		puts(t, s, 1, most-first, false, api.OK)
		waits(t, s, 1, most, 5)
		puts(t, s, 1, 1, false, api.ErrLong)
		// What went out makes room.
		data(t, s, 12, 1, 3, false)
		puts(t, s, 1, 4, false, api.ErrLong)
		puts(t, s, 1, 3, true, api.OK)
		waits(t, s, 1, most, 2)
	}
}

func TestPutOfWhatMayNotBe(t *testing.T) {
	s := with(t, 5, 1)
	for _, octets := range []int{math.MinInt, -most, -1, most + 1, 1 << 32, math.MaxInt} {
		for _, end := range []bool{false, true} {
			puts(t, s, 1, octets, end, api.ErrArg)
		}
	}
	waits(t, s, 1, 0, 5)
	none(t, s, 100)
	// The end was not taken with it.
	puts(t, s, 1, 1, false, api.OK)
	data(t, s, 100, 1, 1, false)
}

func TestPutBehindTheEnd(t *testing.T) {
	s := holding(t, 1, 5, 2, true)
	puts(t, s, 1, 0, false, api.ErrState)
	puts(t, s, 1, 0, true, api.ErrState)
	puts(t, s, 1, 1, false, api.ErrState)
	puts(t, s, 1, most, false, api.ErrState)
	// A number that may not be is said first.
	puts(t, s, 1, -1, false, api.ErrArg)
	puts(t, s, 1, most+1, true, api.ErrArg)
	waits(t, s, 1, 2, 5)
	data(t, s, 100, 1, 2, true)
	puts(t, s, 1, 0, false, api.ErrNone)
}

// No call of one stream finds one by a number that there is not.
func TestThereIsNoSuchStream(t *testing.T) {
	s := with(t, 5, 2, 4, 6)
	drops(t, s, 4, api.OK)
	for _, id := range []int{math.MinInt, -2, -1, 0, 1, 3, 4, 5, 7, most, most + 1, 1<<32 + 2, math.MaxInt} {
		puts(t, s, id, 1, true, api.ErrNone)
		puts(t, s, id, -1, true, api.ErrNone)
		puts(t, s, id, most+1, false, api.ErrNone)
		drops(t, s, id, api.ErrNone)
		isNone(t, s, id)
		if id != 0 {
			grants(t, s, id, 1, api.ErrNone)
			grants(t, s, id, math.MaxInt, api.ErrNone)
			grants(t, s, id, math.MinInt, api.ErrNone)
		}
	}
	waits(t, s, 2, 0, 5)
	waits(t, s, 6, 0, 5)
	has(t, s, 0, 2, 65535)
}

// grantCases are a window, what it is granted, and what is answered.
var grantCases = []struct {
	window, n int
	want      api.Errno
}{
	{5, 0, api.OK}, {5, 1, api.OK}, {5, -1, api.OK}, {5, -5, api.OK}, {5, -6, api.OK}, {-6, 5, api.OK}, {-6, 7, api.OK},
	{0, most, api.OK}, {0, most + 1, api.ErrRange}, {0, -most, api.OK}, {0, -most - 1, api.ErrRange},
	{5, most - 5, api.OK}, {5, most - 4, api.ErrRange}, {5, -most - 5, api.OK}, {5, -most - 6, api.ErrRange},
	{-5, most + 5, api.OK}, {-5, most + 6, api.ErrRange}, {-5, 5 - most, api.OK}, {-5, 4 - most, api.ErrRange},
	{most, 0, api.OK}, {most, 1, api.ErrRange}, {most, -2 * most, api.OK}, {most, -2*most - 1, api.ErrRange},
	{-most, 0, api.OK}, {-most, -1, api.ErrRange}, {-most, 2 * most, api.OK}, {-most, 2*most + 1, api.ErrRange},
	{5, 1 << 32, api.ErrRange}, {5, -1 << 32, api.ErrRange}, {-5, 1 << 33, api.ErrRange},
	{most, math.MaxInt, api.ErrRange}, {most, math.MinInt, api.ErrRange},
	{-most, math.MaxInt, api.ErrRange}, {-most, math.MinInt, api.ErrRange},
	{0, math.MaxInt, api.ErrRange}, {0, math.MinInt, api.ErrRange},
}

func TestGrant(t *testing.T) {
	for _, c := range grantCases {
		is := c.window
		if c.want == api.OK {
			is += c.n
		}
		s := with(t, 50, 1, 5)
		opens(t, s, 3, c.window, api.OK)
		grants(t, s, 3, c.n, c.want)
		waits(t, s, 3, 0, is)
		has(t, s, 0, 3, 65535)

		grants(t, s, 0, c.window-65535, api.OK)
		grants(t, s, 0, c.n, c.want)
		has(t, s, 0, 3, is)
		waits(t, s, 3, 0, is)
		waits(t, s, 1, 0, 50)
		waits(t, s, 5, 0, 50)
	}
}

// The connection's window needs no stream to be granted.
func TestGrantWithoutStreams(t *testing.T) {
	s := sched.New(10)
	grants(t, s, 0, 10, api.OK)
	has(t, s, 0, 0, 65545)
	grants(t, s, 0, most-65545, api.OK)
	has(t, s, 0, 0, most)
	grants(t, s, 0, 1, api.ErrRange)
	has(t, s, 0, 0, most)
}

func TestDrop(t *testing.T) {
	for i, gone := range []int{1, 3, 5, 7} {
		s := with(t, 50, 1, 3, 5, 7)
		left := []int{1, 3, 5, 7}
		for _, id := range left {
			puts(t, s, id, id, false, api.OK)
		}
		drops(t, s, gone, api.OK)
		drops(t, s, gone, api.ErrNone)
		isNone(t, s, gone)
		has(t, s, 0, 3, 65535)
		left = append(left[:i], left[i+1:]...)
		for _, id := range left {
			waits(t, s, id, id, 50)
		}
		for _, id := range left {
			data(t, s, 100, id, id, false)
		}
		none(t, s, 100)
	}
}

// What was sent on a stream stays sent, when it is dropped.
func TestDropLeavesTheConnection(t *testing.T) {
	s := holding(t, 1, 50, 40, true)
	data(t, s, 29, 1, 20, false)
	s.Control([]byte("x"))
	drops(t, s, 1, api.OK)
	has(t, s, 1, 0, 65515)
	control(t, s, 100, "x")
	none(t, s, 100)
}

func TestDropOfAll(t *testing.T) {
	s := with(t, 5, 1, 3, 5)
	for i, id := range []int{3, 5, 1} {
		drops(t, s, id, api.OK)
		has(t, s, 0, 2-i, 65535)
	}
	none(t, s, 100)
	opens(t, s, 1, 5, api.OK)
	has(t, s, 0, 1, 65535)
}

// A frame is the scheduler's own till it is sent, and the caller's then: R1.
func TestControlFramesAreNotShared(t *testing.T) {
	s := sched.New(10)
	room := []byte("abcdef")
	s.Control(room[:3])
	s.Control(room[3:])
	copy(room, "xxxxxx")
	first, _ := s.Next(100)
	if string(first.Control) != "abc" {
		t.Errorf("%q", first.Control)
	}
	first.Control = append(first.Control, "yyyyyy"...)
	clear(first.Control)
	control(t, s, 100, "def")
	if string(room) != "xxxxxx" {
		t.Errorf("what was handed in became %q", room)
	}
}

// sendFrame lets the scheduler send its first control frame, which is long, and
// nothing but the scheduler could hold on to it then.
func sendFrame(t *testing.T, s *sched.Sched) weak.Pointer[byte] {
	p, ok := s.Next(1 << 20)
	if !ok || len(p.Control) != 1<<20 {
		t.Fatalf("%d octets, %v", len(p.Control), ok)
	}
	return weak.Make(&p.Control[0])
}

// What was sent isn't kept, though others wait beside it.
func TestSentFramesAreNotKept(t *testing.T) {
	s := sched.New(10)
	for range 3 {
		s.Control(make([]byte, 1<<20))
	}
	sent := sendFrame(t, s)
	runtime.GC()
	if sent.Value() != nil {
		t.Error("a frame that was sent is kept")
	}
	has(t, s, 2, 0, 65535)
}

// Two schedulers have nothing to do with each other: R3.
func TestSchedulersAreApart(t *testing.T) {
	a, b := holding(t, 1, 50, 5, true), holding(t, 1, 50, 5, false)
	a.Control([]byte("a"))
	a.SetFrame(1)
	grants(t, a, 0, 1, api.OK)
	grants(t, a, 1, 1, api.OK)
	has(t, b, 0, 1, 65535)
	waits(t, b, 1, 5, 50)
	data(t, b, 100, 1, 5, false)
	control(t, a, 100, "a")
	drops(t, b, 1, api.OK)
	waits(t, a, 1, 5, 51)
	data(t, a, 100, 1, 1, false)
}

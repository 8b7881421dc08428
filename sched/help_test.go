package sched_test

import (
	"bytes"
	"math"
	"testing"

	"flume/api"
	"flume/sched"
)

const most = math.MaxInt32

// The calls of K1 that answer are held against what is asked, one by one.

func opens(t *testing.T, s *sched.Sched, id, window int, want api.Errno) {
	t.Helper()
	if e := s.Open(id, window); e != want {
		t.Errorf("Open of %d, %d: %v; want %v", id, window, e, want)
	}
}

func puts(t *testing.T, s *sched.Sched, id, octets int, end bool, want api.Errno) {
	t.Helper()
	if e := s.Put(id, octets, end); e != want {
		t.Errorf("Put of %d, %d, %v: %v; want %v", id, octets, end, e, want)
	}
}

func grants(t *testing.T, s *sched.Sched, id, n int, want api.Errno) {
	t.Helper()
	if e := s.Grant(id, n); e != want {
		t.Errorf("Grant of %d, %d: %v; want %v", id, n, e, want)
	}
}

func drops(t *testing.T, s *sched.Sched, id int, want api.Errno) {
	t.Helper()
	if e := s.Drop(id); e != want {
		t.Errorf("Drop of %d: %v; want %v", id, e, want)
	}
}

// same tells whether two pieces are alike; a row without octets may be nil or
// empty.
func same(a, b sched.Piece) bool {
	return bytes.Equal(a.Control, b.Control) && a.Stream == b.Stream && a.Octets == b.Octets && a.End == b.End
}

// nexts holds what Next answers against what is asked.
func nexts(t *testing.T, s *sched.Sched, capacity int, want sched.Piece, wantOk bool) {
	t.Helper()
	if p, ok := s.Next(capacity); !same(p, want) || ok != wantOk {
		t.Errorf("Next of %d: %v, %v; want %v, %v", capacity, p, ok, want, wantOk)
	}
}

// data, control and none ask that Next answers octets of a stream, a control
// frame, or nothing.
func data(t *testing.T, s *sched.Sched, capacity, id, octets int, end bool) {
	t.Helper()
	nexts(t, s, capacity, sched.Piece{Stream: id, Octets: octets, End: end}, true)
}

func control(t *testing.T, s *sched.Sched, capacity int, want string) {
	t.Helper()
	nexts(t, s, capacity, sched.Piece{Control: []byte(want)}, true)
}

func none(t *testing.T, s *sched.Sched, capacity int) {
	t.Helper()
	nexts(t, s, capacity, sched.Piece{}, false)
}

// has asks a scheduler for what can be seen of it but its streams.
func has(t *testing.T, s *sched.Sched, frames, streams, window int) {
	t.Helper()
	if a, b := s.Len(); a != frames || b != streams || s.Window() != window {
		t.Errorf("Len %d, %d, Window %d; want %d, %d, %d", a, b, s.Window(), frames, streams, window)
	}
}

// waits asks for a stream that there is.
func waits(t *testing.T, s *sched.Sched, id, octets, window int) {
	t.Helper()
	if a, b, ok := s.Wait(id); a != octets || b != window || !ok {
		t.Errorf("Wait of %d: %d, %d, %v; want %d, %d", id, a, b, ok, octets, window)
	}
}

// isNone asks for a stream that there is not.
func isNone(t *testing.T, s *sched.Sched, id int) {
	t.Helper()
	if a, b, ok := s.Wait(id); a != 0 || b != 0 || ok {
		t.Errorf("Wait of %d, that is none: %d, %d, %v", id, a, b, ok)
	}
}

// with is a scheduler of wide frames with streams of a window each, in this
// order, on which nothing waits.
func with(t *testing.T, window int, ids ...int) *sched.Sched {
	t.Helper()
	s := sched.New(1 << 20)
	for _, id := range ids {
		opens(t, s, id, window, api.OK)
	}
	return s
}

// holding is one with a single stream, on which so many octets wait.
func holding(t *testing.T, id, window, octets int, end bool) *sched.Sched {
	t.Helper()
	s := with(t, window, id)
	puts(t, s, id, octets, end, api.OK)
	return s
}

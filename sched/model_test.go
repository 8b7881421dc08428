package sched_test

import (
	"flume/api"
	"flume/sched"
)

// model is a scheduler that keeps sums and never takes from them, and finds
// the order of the queue by when each stream came to its end.
type model struct {
	frame   int
	granted int // the connection's window at first, and all that it was granted
	sent    int
	control []string
	told    int // how many of the control frames were sent
	streams map[int]*modelStream
	clock   int
}

type modelStream struct {
	granted, put, sent int
	end                bool
	since              int // when it came to the queue's end
}

func newModel(frame int) *model {
	m := &model{granted: 65535, streams: map[int]*modelStream{}}
	m.setFrame(frame)
	return m
}

func (m *model) setFrame(n int) {
	m.frame = n
	if n < 1 {
		m.frame = 1
	}
	if n > 16777215 {
		m.frame = 16777215
	}
}

func (m *model) putControl(b string) {
	if b != "" {
		m.control = append(m.control, b)
	}
}

func (m *model) tick() int {
	m.clock++
	return m.clock
}

func (m *model) open(id, window int) api.Errno {
	if id < 1 || id > most || window < -most || window > most {
		return api.ErrArg
	}
	if m.streams[id] != nil {
		return api.ErrState
	}
	m.streams[id] = &modelStream{granted: window, since: m.tick()}
	return api.OK
}

func (m *model) put(id, octets int, end bool) api.Errno {
	x := m.streams[id]
	if x == nil {
		return api.ErrNone
	}
	if octets < 0 || octets > most {
		return api.ErrArg
	}
	if x.end {
		return api.ErrState
	}
	if x.put-x.sent+octets > most {
		return api.ErrLong
	}
	x.put += octets
	x.end = end
	return api.OK
}

func (m *model) grant(id, n int) api.Errno {
	sum, sent := &m.granted, m.sent
	if id != 0 {
		x := m.streams[id]
		if x == nil {
			return api.ErrNone
		}
		sum, sent = &x.granted, x.sent
	}
	// No window can take more than 2^32 on, so greater numbers need no sum.
	if n < -1<<33 || n > 1<<33 || *sum-sent+n < -most || *sum-sent+n > most {
		return api.ErrRange
	}
	*sum += n
	return api.OK
}

func (m *model) drop(id int) api.Errno {
	if m.streams[id] == nil {
		return api.ErrNone
	}
	delete(m.streams, id)
	return api.OK
}

func (m *model) isReady(x *modelStream) bool {
	if x.put == x.sent {
		return x.end
	}
	return x.granted > x.sent && m.granted > m.sent
}

// first is the ready stream that came to the queue's end longest ago, or 0.
func (m *model) first() int {
	first := 0
	for id, x := range m.streams {
		if m.isReady(x) && (first == 0 || x.since < m.streams[first].since) {
			first = id
		}
	}
	return first
}

func (m *model) next(capacity int) (sched.Piece, bool) {
	if m.told < len(m.control) {
		b := m.control[m.told]
		if len(b) > capacity {
			return sched.Piece{}, false
		}
		m.told++
		return sched.Piece{Control: []byte(b)}, true
	}
	id := m.first()
	if id == 0 || capacity < 9 {
		return sched.Piece{}, false
	}
	x := m.streams[id]
	n := x.put - x.sent
	if n > 0 && capacity == 9 {
		return sched.Piece{}, false
	}
	if n > 0 {
		for _, bound := range []int{x.granted - x.sent, m.granted - m.sent, m.frame, capacity - 9} {
			if n > bound {
				n = bound
			}
		}
	}
	x.sent += n
	m.sent += n
	x.since = m.tick()
	end := x.end && x.put == x.sent
	if end {
		delete(m.streams, id)
	}
	return sched.Piece{Stream: id, Octets: n, End: end}, true
}

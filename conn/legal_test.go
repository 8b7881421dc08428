package conn_test

import (
	"fmt"
	"testing"

	"flume/api"
	"flume/frame"
	"flume/hpack"
	"flume/settings"
	"flume/stream"
)

// judge reads what one end wrote and read, and finds what it should not have
// written: the rules of DOC.md's P2.
type judge struct {
	server   bool // the end that is judged
	states   map[int]int
	opened   [2]int      // the greatest stream of each end, by its lowest bit
	windows  map[int]int // how much may be sent, 0: on the connection
	values   api.Values  // in force for what is written
	theirs   [][]api.Setting
	ours     [][]api.Setting
	pings    []string
	stopped  bool // what comes counts no more
	readAny  bool
	wroteAny bool
	read     *hpack.Decoder
	written  *hpack.Decoder
	block    [2]api.Frame // that is open, of what was written and read
	over     bool         // a GOAWAY with an error was written
	last     int          // of the last GOAWAY, -1: none
}

// spoken is a frame of one way: where its octets begin and end among the
// chunks, and what is wrong with it.
type spoken struct {
	frame       api.Frame
	wrong       api.Fault
	length      int
	first, last int
}

// framesSpoken are all whole frames of one way. The preface is left out, and
// whether that is right.
func framesSpoken(l []api.Chunk, out, preface bool) ([]spoken, bool) {
	var b []byte
	var ends []int // of each chunk, how many octets there are up to its end
	for _, c := range l {
		if c.Out == out {
			b = append(b, c.Bytes...)
		}
		ends = append(ends, len(b))
	}
	at := 0
	if preface {
		at = min(len(b), len(api.Preface))
		if string(b[:at]) != api.Preface[:at] {
			return nil, false
		}
	}
	var all []spoken
	chunk := 0
	for len(b) >= at+9 {
		length := int(b[at])<<16 | int(b[at+1])<<8 | int(b[at+2])
		end := at + 9 + length
		if len(b) < end {
			break
		}
		s := spoken{length: length}
		for ; ends[chunk] <= at; chunk++ {
		}
		s.first = chunk
		for ; ends[chunk] < end; chunk++ {
		}
		s.last = chunk
		p := frame.New(api.MostFrame)
		p.Feed(b[at:end])
		s.frame, s.wrong, _ = p.Next()
		all = append(all, s)
		at = end
	}
	return all, true
}

// judged is what is wrong with what an end wrote, if something is.
func judged(server bool, l []api.Chunk) error {
	written, ok := framesSpoken(l, true, !server)
	if !ok {
		return fmt.Errorf("the preface is not right")
	}
	read, ok := framesSpoken(l, false, server)
	j := &judge{
		server: server, states: map[int]int{}, windows: map[int]int{0: 65535}, values: settings.Default(), last: -1, stopped: !ok,
		read: hpack.NewDecoder(4096, 1<<40), written: hpack.NewDecoder(4096, 1<<40),
	}
	for i, f := range written {
		for len(read) > 0 && read[0].last < f.first {
			j.reads(read[0])
			read = read[1:]
		}
		if e := j.writes(f); e != nil {
			return fmt.Errorf("frame %d, %s: %w", i, frameText(f.frame, nil), e)
		}
	}
	return nil
}

func (j *judge) isOurs(id int) bool { return (id%2 == 1) != j.server }

func (j *judge) state(id int) int {
	if s, ok := j.states[id]; ok {
		return s
	}
	if id < j.opened[id%2] {
		return stream.Closed
	}
	return stream.Idle
}

func (j *judge) set(id, state int) {
	if _, ok := j.states[id]; !ok {
		j.windows[id] = j.values.Window
		j.opened[id%2] = max(j.opened[id%2], id)
	}
	j.states[id] = state
}

// joins puts blocks together: whether a frame may stand there, and the frame,
// if it is whole.
func (j *judge) joins(way int, f api.Frame) (whole api.Frame, isWhole, ok bool) {
	open := &j.block[way]
	isOpen := open.Stream != 0
	if isOpen != (f.Kind == api.Continuation) || isOpen && f.Stream != open.Stream {
		return f, false, false
	}
	if f.Kind != api.Headers && !isOpen {
		return f, true, true
	}
	if !isOpen {
		*open = f
	} else {
		open.Payload = append(open.Payload, f.Payload...)
	}
	if !f.EndHeaders {
		return f, false, true
	}
	whole = *open
	*open = api.Frame{}
	return whole, true, true
}

func isOfStream(f api.Frame) bool {
	switch f.Kind {
	case api.Headers, api.Data, api.RstStream:
		return true
	default:
		return f.Kind == api.WindowUpdate && f.Stream != 0
	}
}

// reads takes a frame that came in.
func (j *judge) reads(s spoken) {
	f := s.frame
	isFirst := !j.readAny
	j.readAny = true
	switch {
	case j.stopped:
		return
	case s.wrong.Is && s.wrong.Stream == 0, isFirst && (s.wrong.Is || f.Kind != api.Settings || f.Ack), f.Kind == api.PushPromise && !s.wrong.Is:
		j.stopped = true
		return
	case s.wrong.Is:
		j.stopped = j.block[1].Stream != 0
		return
	}
	if isOfStream(f) {
		if !j.readsStream(f) {
			j.stopped = true
			return
		}
	}
	whole, isWhole, ok := j.joins(1, f)
	if !ok {
		j.stopped = true
		return
	}
	if isWhole && whole.Kind == api.Headers {
		_, e := j.read.Decode(whole.Payload)
		j.stopped = e == api.ErrForm
	}
	switch f.Kind {
	case api.Settings:
		j.readsSettings(f)
	case api.Ping:
		if !f.Ack {
			j.pings = append(j.pings, string(f.Payload))
		}
	case api.WindowUpdate:
		if f.Stream == 0 {
			j.windows[0] += f.Inc
		}
	}
}

// readsStream tells whether a frame counts, and what follows does.
func (j *judge) readsStream(f api.Frame) bool {
	was := j.state(f.Stream)
	next, do, code := stream.Step(was, false, f.Kind, f.End)
	if do == stream.Breaks && code == api.ProtocolError || f.Kind == api.Headers && was == stream.Idle && j.isOurs(f.Stream) {
		return false
	}
	if do == stream.Takes {
		j.set(f.Stream, next)
		if f.Kind == api.WindowUpdate {
			j.windows[f.Stream] += f.Inc
		}
	}
	return true
}

func (j *judge) readsSettings(f api.Frame) {
	if !f.Ack {
		if _, wrong := settings.All(settings.Default(), f.List, !j.server); wrong.Is {
			j.stopped = true
			return
		}
		j.theirs = append(j.theirs, f.List)
		return
	}
	if len(j.ours) > 0 {
		for _, s := range j.ours[0] {
			if s.ID == api.HeaderTableSize {
				j.read.SetMax(int(s.Value))
			}
		}
		j.ours = j.ours[1:]
	}
}

// writes holds a frame that was written against the rules.
func (j *judge) writes(s spoken) error {
	f := s.frame
	isFirst := !j.wroteAny
	j.wroteAny = true
	whole, isWhole, ok := j.joins(0, f)
	switch {
	case s.wrong.Is:
		return fmt.Errorf("rule 2: %v", s.wrong)
	case isFirst && (f.Kind != api.Settings || f.Ack):
		return fmt.Errorf("rule 1")
	case j.over:
		return fmt.Errorf("rule 3: behind a GOAWAY")
	case s.length > j.values.Frame:
		return fmt.Errorf("rule 4: %d octets, Frame is %d", s.length, j.values.Frame)
	case !ok:
		return fmt.Errorf("rule 5")
	}
	if isOfStream(f) {
		if e := j.writesStream(f, s.length); e != nil {
			return e
		}
	}
	if isWhole && whole.Kind == api.Headers {
		if _, e := j.written.Decode(whole.Payload); e != api.OK {
			return fmt.Errorf("rule 12: %v", e)
		}
	}
	switch f.Kind {
	case api.Goaway:
		if j.last >= 0 && f.Last > j.last {
			return fmt.Errorf("rule 8: Last %d behind %d", f.Last, j.last)
		}
		j.last, j.over = f.Last, f.Code != api.NoError
	case api.Settings:
		return j.writesSettings(f)
	case api.Ping:
		if !f.Ack {
			return nil
		}
		if len(j.pings) == 0 || j.pings[0] != string(f.Payload) {
			return fmt.Errorf("rule 11: waiting %q", j.pings)
		}
		j.pings = j.pings[1:]
	}
	return nil
}

func (j *judge) writesStream(f api.Frame, length int) error {
	was := j.state(f.Stream)
	active := 0
	for id, s := range j.states {
		if j.isOurs(id) && s >= stream.Open && s <= stream.HalfRemote {
			active++
		}
	}
	next, do, _ := stream.Step(was, true, f.Kind, f.End)
	isLetBy := f.Kind != api.Data && was == stream.ClosedTheirs || (f.Kind == api.RstStream || f.Kind == api.WindowUpdate) && was == stream.Closed
	switch begins := f.Kind == api.Headers && was == stream.Idle; {
	case begins && (j.server || !j.isOurs(f.Stream)):
		return fmt.Errorf("rule 6")
	case begins && j.values.Streams >= 0 && active >= j.values.Streams:
		return fmt.Errorf("rule 7: %d are active", active)
	case f.Kind != api.RstStream && !j.isOurs(f.Stream) && j.last >= 0 && f.Stream > j.last:
		return fmt.Errorf("rule 8: the last is %d", j.last)
	case do == stream.Refuses && !isLetBy:
		return fmt.Errorf("rule 9: state %d", was)
	case f.Kind == api.Data && length > 0 && length > min(j.windows[0], j.windows[f.Stream]):
		return fmt.Errorf("rule 10: %d octets, windows %d, %d", length, j.windows[0], j.windows[f.Stream])
	}
	if do == stream.Takes {
		j.set(f.Stream, next)
	}
	if f.Kind == api.Data {
		j.windows[0] -= length
		j.windows[f.Stream] -= length
	}
	return nil
}

func (j *judge) writesSettings(f api.Frame) error {
	if !f.Ack {
		j.ours = append(j.ours, f.List)
		return nil
	}
	if len(j.theirs) == 0 {
		return fmt.Errorf("rule 11: no SETTINGS wait")
	}
	is, _ := settings.All(j.values, j.theirs[0], !j.server)
	j.theirs = j.theirs[1:]
	for id := range j.states {
		j.windows[id] += is.Window - j.values.Window
	}
	j.values = is
	j.written.SetMax(is.Table)
	return nil
}

// granted tells whether more was granted than came: of each stream, and of the
// connection.
func granted(server bool, l []api.Chunk) error {
	written, _ := framesSpoken(l, true, !server)
	read, _ := framesSpoken(l, false, server)
	came, gave := map[int]int{}, map[int]int{}
	for _, s := range read {
		if s.frame.Kind == api.Data && !s.wrong.Is {
			came[s.frame.Stream] += s.length
			came[0] += s.length
		}
	}
	for _, s := range written {
		if s.frame.Kind == api.WindowUpdate {
			gave[s.frame.Stream] += s.frame.Inc
		}
	}
	for id, n := range gave {
		if n > came[id] {
			return fmt.Errorf("stream %d: %d granted, %d came", id, n, came[id])
		}
	}
	return nil
}

func isLegal(t *testing.T, server bool, l []api.Chunk) {
	t.Helper()
	if e := judged(server, l); e != nil {
		t.Errorf("server %v: %v", server, e)
	}
	if e := granted(server, l); e != nil {
		t.Errorf("server %v: %v", server, e)
	}
}

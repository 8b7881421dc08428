package conn_test

import (
	"strings"

	"flume/api"
	"flume/fields"
	"flume/frame"
	"flume/hpack"
	"flume/settings"
	"flume/stream"
)

// model is an end of a connection that forgets nothing: it keeps all that was
// ever said, and reckons from that how things are.
type model struct {
	server           bool
	window, frame    int // its own
	most             int
	peer             api.Values
	encoder          *hpack.Encoder
	decoder          *hpack.Decoder
	raw              string // what came and was not read
	greeted, begun   bool
	block            []api.Frame // of the block that is open
	early            bool        // it began on a number that was new
	streams          map[int]*modelStream
	order            []*modelStream
	lastTheirs       int
	resets           []int
	rows             []modelRow // all control frames
	rowsOut, partOut int        // how many are wholly out, and how many octets of the next one
	credit           modelCredit
	limit, wrote     int // octets of data: how many may be sent in all, and were
	clock            int
	events           []api.Event
	sent             []api.Sent
	broken, left     bool
	shut             bool
	shutLast         int
}

// modelRow is a control frame, and the request that it opens, or 0.
type modelRow struct {
	octets string
	opens  int
}

// modelCredit is what came, was freed, and was granted again of a window.
type modelCredit struct {
	window, came, freed, granted int
}

func (k *modelCredit) due() int {
	if n := k.freed - k.granted; n > 0 && 2*n >= k.window {
		return n
	}
	return 0
}

func (k *modelCredit) held() int { return k.came - k.freed }

func (k *modelCredit) hasRoom(n int) bool { return k.came+n <= k.window+k.granted }

// modelStream is a stream, as long as it lives, and behind that.
type modelStream struct {
	id             int
	lives, active  bool
	said           []modelFrame
	credit         modelCredit
	length, came   int
	in, out, ended bool
	head           bool
	text           string // all data that was put
	wrote          int
	trail          []api.Field
	hasTrail       bool
	queued, end    bool
	limit, since   int
}

// modelFrame is a frame that was taken on a stream.
type modelFrame struct {
	sends bool
	kind  int
	end   bool
}

// modelBreak is given up by what breaks the model.
type modelBreak api.Code

func newModel(server bool, own api.Values) *model {
	m := &model{
		server: server, window: max(own.Window, 65535), frame: max(own.Frame, 16384), most: own.Streams,
		peer: settings.Default(), encoder: hpack.NewEncoder(4096), greeted: !server,
		streams: map[int]*modelStream{}, limit: 65535, credit: modelCredit{window: 65535},
	}
	list := own.List
	if list < 0 {
		list = 65536
	}
	m.decoder = hpack.NewDecoder(4096, list)
	if m.most < 0 {
		m.most = most
	}
	if !server {
		m.rows = append(m.rows, modelRow{octets: api.Preface})
	}
	own.Table, own.Push, own.Window, own.Frame = 4096, server, m.window, m.frame
	m.send(api.Frame{Kind: api.Settings, List: settings.Tell(settings.Default(), own)})
	return m
}

func (m *model) send(f api.Frame) {
	b, e := frame.Write(f)
	if e != api.OK {
		panic(e)
	}
	m.rows = append(m.rows, modelRow{octets: string(b)})
}

func (m *model) tell(e api.Event) { m.events = append(m.events, e) }

// state folds all that was said on a stream.
func (m *model) state(id int) int {
	x := m.streams[id]
	if x == nil || !x.lives {
		for i, past := range m.resets {
			if past == id && i >= len(m.resets)-64 {
				return stream.ClosedOurs
			}
		}
		return stream.Closed
	}
	state := stream.Idle
	for _, f := range x.said {
		state, _, _ = stream.Step(state, f.sends, f.kind, f.end)
	}
	return state
}

// theirs tells whether a number is one of the peer's.
func (m *model) theirs(id int) bool { return (id%2 == 1) == m.server }

// isNew tells whether the peer can't know a number as that of a stream.
func (m *model) isNew(id int) bool {
	if m.theirs(id) {
		return id > m.lastTheirs
	}
	for _, r := range m.rows[:m.rowsOut] {
		if r.opens == id {
			return false
		}
	}
	return true
}

// known is the stream that a frame of the peer's is of, if it lives.
func (m *model) known(id int) *modelStream {
	if x := m.streams[id]; x != nil && x.lives && !m.isNew(id) {
		return x
	}
	return nil
}

func (m *model) living(id int) *modelStream {
	if x := m.streams[id]; x != nil && x.lives {
		return x
	}
	return nil
}

func (m *model) active(theirs bool) int {
	n := 0
	for _, x := range m.order {
		if x.active && m.theirs(x.id) == theirs {
			n++
		}
	}
	return n
}

func (m *model) start(id int) *modelStream {
	x := &modelStream{id: id, lives: true, active: true, length: -1, credit: modelCredit{window: m.window}}
	m.streams[id] = x
	m.order = append(m.order, x)
	return x
}

func (m *model) queue(x *modelStream) {
	m.clock++
	x.queued, x.limit, x.since = true, m.peer.Window, m.clock
}

func (m *model) grant(k *modelCredit, id int) {
	if n := k.due(); n > 0 {
		k.granted += n
		m.send(api.Frame{Kind: api.WindowUpdate, Stream: id, Inc: n})
	}
}

func (m *model) free(n int) {
	m.credit.freed += n
	m.grant(&m.credit, 0)
}

func (m *model) freeBoth(x *modelStream, n int) {
	x.credit.freed += n
	m.free(n)
	if s := m.state(x.id); s == stream.Open || s == stream.HalfLocal {
		m.grant(&x.credit, x.id)
	}
}

func (m *model) drop(x *modelStream) {
	x.lives, x.queued, x.active = false, false, false
	m.free(x.credit.held())
}

func (m *model) giveUp(x *modelStream, code api.Code) {
	m.send(api.Frame{Kind: api.RstStream, Stream: x.id, Code: code})
	m.resets = append(m.resets, x.id)
	m.drop(x)
}

func (m *model) reset(x *modelStream, code api.Code) {
	m.giveUp(x, code)
	m.tell(api.Event{Kind: api.EvReset, Stream: x.id, Code: code, End: true})
}

func (m *model) closed(x *modelStream) {
	if x.lives && m.state(x.id) == stream.Closed {
		x.active = false
		if x.credit.held() == 0 {
			x.lives, x.queued = false, false
		}
	}
}

func (m *model) feed(b []byte) []api.Event {
	m.events = nil
	if m.broken {
		return nil
	}
	m.raw += string(b)
	func() {
		defer func() {
			if code, ok := recover().(modelBreak); ok {
				m.broke(api.Code(code))
			}
		}()
		m.read()
	}()
	return m.events
}

func (m *model) broke(code api.Code) {
	last := m.lastTheirs
	if m.shut {
		last = m.shutLast
	}
	m.send(api.Frame{Kind: api.Goaway, Last: last, Code: code})
	for _, x := range m.order {
		x.lives, x.queued = false, false
	}
	m.broken = true
	m.tell(api.Event{Kind: api.EvBroken, Code: code})
}

func (m *model) read() {
	if !m.greeted {
		n := min(len(m.raw), 24)
		if m.raw[:n] != "PRI * HTTP/2.0\r\n\r\nSM\r\n\r\n"[:n] {
			panic(modelBreak(1))
		}
		if n < 24 {
			return
		}
		m.greeted, m.raw = true, m.raw[24:]
	}
	for len(m.raw) >= 9 {
		length := int(m.raw[0])<<16 | int(m.raw[1])<<8 | int(m.raw[2])
		if length > m.frame {
			panic(modelBreak(6))
		}
		if len(m.raw) < 9+length {
			return
		}
		p := frame.New(1<<24 - 1)
		p.Feed([]byte(m.raw[:9+length]))
		m.raw = m.raw[9+length:]
		f, wrong, _ := p.Next()
		if wrong.Is {
			m.wrong(wrong)
		} else if f, ok := m.join(f); ok {
			m.take(f)
		}
		waiting := len(m.rows) - m.rowsOut
		if m.partOut > 0 {
			waiting--
		}
		if waiting > 1000 {
			panic(modelBreak(11))
		}
	}
}

func (m *model) wrong(f api.Fault) {
	x := m.known(f.Stream)
	switch {
	case f.Stream == 0:
		panic(modelBreak(f.Code))
	case len(m.block) > 0 || !m.begun:
		panic(modelBreak(1))
	case x != nil && m.state(x.id) != stream.Closed:
		m.reset(x, f.Code)
	case x == nil && m.isNew(f.Stream):
		panic(modelBreak(f.Code))
	}
}

// join is a frame of which nothing is to follow.
func (m *model) join(f api.Frame) (api.Frame, bool) {
	if !m.begun && (f.Kind != 4 || f.Ack) {
		panic(modelBreak(1))
	}
	m.begun = true
	isOpen := len(m.block) > 0
	follows := isOpen && f.Kind == 9 && f.Stream == m.block[0].Stream
	if isOpen != follows || f.Kind == 9 && !isOpen {
		panic(modelBreak(1))
	}
	if f.Kind != 1 && f.Kind != 9 {
		return f, true
	}
	if f.Kind == 1 {
		m.early = m.isNew(f.Stream)
	}
	m.block = append(m.block, f)
	whole := m.block[0]
	whole.Payload = nil
	for _, part := range m.block {
		whole.Payload = append(whole.Payload, part.Payload...)
	}
	if len(m.block) > 33 || len(whole.Payload) > 65536 {
		panic(modelBreak(11))
	}
	if !f.EndHeaders {
		return f, false
	}
	m.block = nil
	return whole, true
}

// steps does what is to be done with a frame by the state of its stream, if it
// is not to be taken; size is of data.
func (m *model) steps(x *modelStream, f api.Frame, size int) bool {
	_, do, code := stream.Step(m.state(f.Stream), false, f.Kind, f.End)
	switch do {
	case stream.Breaks:
		panic(modelBreak(code))
	case stream.Ignores:
		m.free(size)
	case stream.Resets:
		m.free(size)
		m.reset(x, code)
	}
	return do == stream.Takes
}

func (m *model) take(f api.Frame) {
	x := m.known(f.Stream)
	// Of a number that is new no frame of these may come.
	if f.Kind == 3 || f.Kind == 8 && f.Stream != 0 {
		if m.isNew(f.Stream) {
			panic(modelBreak(1))
		}
		if f.Kind == 8 && x == nil || !m.steps(x, f, 0) {
			return
		}
	}
	switch f.Kind {
	case 0:
		m.data(x, f)
	case 1:
		m.headers(x, f)
	case 3:
		m.tell(api.Event{Kind: api.EvReset, Stream: f.Stream, Code: f.Code})
		m.drop(x)
	case 4:
		if !f.Ack {
			m.settings(f.List)
		}
	case 5:
		panic(modelBreak(1))
	case 6:
		if !f.Ack {
			m.send(api.Frame{Kind: 6, Ack: true, Payload: f.Payload})
		}
	case 7:
		m.left = true
		m.tell(api.Event{Kind: api.EvGoaway, Last: f.Last, Code: f.Code})
	case 8:
		m.update(x, f.Inc)
	}
	if x := m.known(f.Stream); x != nil && f.Kind <= 1 {
		m.closed(x)
	}
}

func (m *model) update(x *modelStream, inc int) {
	switch {
	case x == nil && m.limit+inc-m.wrote > most:
		panic(modelBreak(3))
	case x == nil:
		m.limit += inc
	case x.queued && x.limit+inc-x.wrote > most:
		m.reset(x, 3)
	default:
		x.limit += inc
	}
}

func (m *model) settings(l []api.Setting) {
	is, wrong := settings.All(m.peer, l, !m.server)
	if wrong.Is {
		panic(modelBreak(wrong.Code))
	}
	for _, x := range m.order {
		x.limit += is.Window - m.peer.Window
		if left := x.limit - x.wrote; x.queued && (left > most || left < -most) {
			panic(modelBreak(3))
		}
	}
	if was, now := min(m.peer.Table, 4096), min(is.Table, 4096); was != now {
		m.encoder.SetMax(now)
	}
	m.peer = is
	m.send(api.Frame{Kind: 4, Ack: true})
	m.tell(api.Event{Kind: api.EvSettings})
}

func (m *model) headers(x *modelStream, f api.Frame) {
	l, e := m.decoder.Decode(f.Payload)
	if e != api.OK && e != api.ErrLong {
		panic(modelBreak(9))
	}
	if m.early {
		if !m.server || !m.theirs(f.Stream) {
			panic(modelBreak(1))
		}
		m.lastTheirs = f.Stream
		if m.shut || m.active(true) >= m.most {
			m.send(api.Frame{Kind: 3, Stream: f.Stream, Code: 7})
			m.resets = append(m.resets, f.Stream)
			return
		}
		x = m.start(f.Stream)
		m.queue(x)
	}
	if !m.steps(x, f, 0) {
		return
	}
	x.said = append(x.said, modelFrame{false, 1, f.End})
	switch {
	case e == api.ErrLong:
		m.reset(x, 11)
	case x.in && (!f.End || !fields.Trailers(l) || x.length >= 0 && x.came != x.length):
		m.reset(x, 1)
	case x.in:
		m.tell(api.Event{Kind: api.EvTrail, Stream: x.id, Fields: l, End: true})
	default:
		m.head(x, l, f.End)
	}
}

func (m *model) head(x *modelStream, l []api.Field, end bool) {
	msg, ok := fields.Request(l)
	if !m.server {
		msg, ok = fields.Response(l)
	}
	isAhead := ok && !m.server && msg.Status < 200
	if isAhead && !end {
		return
	}
	if x.head || msg.Status == 204 || msg.Status == 304 {
		msg.Length = 0
	}
	if !ok || isAhead || end && msg.Length > 0 {
		m.reset(x, 1)
		return
	}
	x.in, x.length = true, msg.Length
	m.tell(api.Event{Kind: api.EvHead, Stream: x.id, Fields: l, End: end})
}

func (m *model) data(x *modelStream, f api.Frame) {
	size := len(f.Payload) + f.Pad
	if !m.credit.hasRoom(size) {
		panic(modelBreak(3))
	}
	m.credit.came += size
	if m.isNew(f.Stream) {
		panic(modelBreak(1))
	}
	if !m.steps(x, f, size) {
		return
	}
	if !x.credit.hasRoom(size) {
		m.free(size)
		m.reset(x, 3)
		return
	}
	x.credit.came += size
	x.came += len(f.Payload)
	isLong := x.length >= 0 && x.came > x.length
	isShort := x.length >= 0 && x.came < x.length
	if !x.in || isLong || isShort && f.End {
		m.reset(x, 1)
		return
	}
	x.said = append(x.said, modelFrame{false, 0, f.End})
	m.freeBoth(x, f.Pad)
	m.tell(api.Event{Kind: api.EvData, Stream: x.id, Data: f.Payload, End: f.End})
}

// sendBlock sends a block as one row.
func (m *model) sendBlock(x *modelStream, l []api.Field, end bool, opens int) {
	b := m.encoder.Encode(l)
	var row strings.Builder
	for at := 0; at == 0 || at < len(b); at += m.peer.Frame {
		piece := b[at:min(len(b), at+m.peer.Frame)]
		f := api.Frame{Kind: 9, Stream: x.id, Payload: piece, EndHeaders: at+m.peer.Frame >= len(b)}
		if at == 0 {
			f.Kind, f.End = 1, end
		}
		octets, _ := frame.Write(f)
		row.Write(octets)
	}
	m.rows = append(m.rows, modelRow{row.String(), opens})
	x.said = append(x.said, modelFrame{true, 1, end})
	x.out = true
	if end {
		x.ended, x.queued = true, false
	}
	m.closed(x)
}

func (m *model) request(l []api.Field, end bool) (int, api.Errno) {
	if m.broken || m.server || m.left || m.shut {
		return 0, api.ErrState
	}
	msg, ok := fields.Request(l)
	if !ok {
		return 0, api.ErrArg
	}
	if limit := m.peer.Streams; limit >= 0 && m.active(false) >= limit {
		return 0, api.ErrFull
	}
	x := m.start(2*len(m.order) + 1)
	x.head = msg.Method == "HEAD"
	m.queue(x)
	m.sendBlock(x, l, end, x.id)
	return x.id, api.OK
}

func (m *model) respond(id int, l []api.Field, end bool) api.Errno {
	x := m.living(id)
	msg, ok := fields.Response(l)
	switch {
	case m.broken:
		return api.ErrState
	case x == nil:
		return api.ErrNone
	case !m.server || x.out:
		return api.ErrState
	case !ok || msg.Status < 200:
		return api.ErrArg
	}
	m.sendBlock(x, l, end, 0)
	return api.OK
}

// speak is the stream on which more may be said.
func (m *model) speak(id int) (*modelStream, api.Errno) {
	x := m.living(id)
	switch {
	case m.broken:
		return nil, api.ErrState
	case x == nil:
		return nil, api.ErrNone
	case !x.out || x.ended:
		return nil, api.ErrState
	}
	return x, api.OK
}

func (m *model) put(id int, b []byte, end bool) api.Errno {
	x, e := m.speak(id)
	if e == api.OK {
		x.text += string(b)
		x.ended, x.end = end, end
	}
	return e
}

func (m *model) trail(id int, l []api.Field) api.Errno {
	x, e := m.speak(id)
	if e != api.OK {
		return e
	}
	if !fields.Trailers(l) {
		return api.ErrArg
	}
	x.ended, x.hasTrail = true, true
	x.trail = append([]api.Field{}, l...)
	m.trailIfDue(x)
	return api.OK
}

func (m *model) trailIfDue(x *modelStream) {
	if x.hasTrail && len(x.text) == x.wrote {
		m.sendBlock(x, x.trail, true, 0)
	}
}

func (m *model) resetOurs(id int, code api.Code) api.Errno {
	x := m.living(id)
	switch {
	case m.broken:
		return api.ErrState
	case x == nil || m.state(id) == stream.Closed:
		return api.ErrNone
	}
	m.giveUp(x, code)
	return api.OK
}

func (m *model) shutdown() {
	if !m.broken && !m.shut {
		m.shut, m.shutLast = true, m.lastTheirs
		m.send(api.Frame{Kind: 7, Last: m.lastTheirs})
	}
}

func (m *model) consumed(id, n int) api.Errno {
	x := m.living(id)
	switch {
	case m.broken:
		return api.ErrState
	case x == nil:
		return api.ErrNone
	case n < 0 || n > x.credit.held():
		return api.ErrArg
	}
	m.freeBoth(x, n)
	m.closed(x)
	return api.OK
}

func (m *model) out(n int) string {
	out := ""
	for n > len(out) {
		room := n - len(out)
		if m.rowsOut < len(m.rows) {
			row := m.rows[m.rowsOut].octets[m.partOut:]
			take := min(room, len(row))
			out += row[:take]
			m.partOut += take
			if take == len(row) {
				m.rowsOut, m.partOut = m.rowsOut+1, 0
			}
			continue
		}
		b := m.outData(room - 9)
		if b == "" {
			break
		}
		out += b
	}
	return out
}

// outData is a DATA of so many octets at most of the stream that has waited
// longest.
func (m *model) outData(room int) string {
	var first *modelStream
	for _, x := range m.order {
		waits := len(x.text) - x.wrote
		isReady := waits > 0 && x.limit > x.wrote && m.limit > m.wrote || waits == 0 && x.end
		if x.queued && isReady && (first == nil || x.since < first.since) {
			first = x
		}
	}
	if first == nil || room < 0 {
		return ""
	}
	x := first
	n := min(len(x.text)-x.wrote, max(0, x.limit-x.wrote), max(0, m.limit-m.wrote), m.peer.Frame, room)
	if n == 0 && len(x.text) > x.wrote {
		return ""
	}
	end := x.end && x.wrote+n == len(x.text)
	b, _ := frame.Write(api.Frame{Kind: 0, Stream: x.id, End: end, Payload: []byte(x.text[x.wrote : x.wrote+n])})
	x.wrote += n
	m.wrote += n
	m.clock++
	x.since = m.clock
	m.sent = append(m.sent, api.Sent{Stream: x.id, Octets: n})
	if end {
		x.queued = false
		x.said = append(x.said, modelFrame{true, 0, true})
		m.closed(x)
	} else {
		m.trailIfDue(x)
	}
	return string(b)
}

func (m *model) count() (streams, waits int) {
	for _, x := range m.order {
		if x.lives {
			streams++
			waits += len(x.text) - x.wrote
		}
	}
	return streams, waits
}

func (m *model) done() bool {
	streams, _ := m.count()
	return (m.broken || m.shut) && streams == 0 && m.rowsOut == len(m.rows)
}

package conn_test

import (
	"fmt"
	"slices"
	"strings"
	"testing"

	"flume/api"
	"flume/block"
	"flume/conn"
	"flume/frame"
	"flume/hpack"
	"flume/settings"
)

const (
	most = 1<<31 - 1
	all  = 1 << 30 // room for all that goes out
)

// list makes fields of names and values, by turns.
func list(texts ...string) []api.Field {
	var l []api.Field
	for i := 0; i < len(texts); i += 2 {
		l = append(l, api.Field{Name: texts[i], Value: texts[i+1]})
	}
	return l
}

// request and answer are right heads, with more fields behind.
func request(method string, more ...string) []api.Field {
	return list(append([]string{":method", method, ":scheme", "http", ":path", "/"}, more...)...)
}

func answer(status string, more ...string) []api.Field {
	return list(append([]string{":status", status}, more...)...)
}

// words are parts of a text that is to be read: each is there, if its thing is
// not zero.
type words []string

func (w *words) add(is bool, form string, args ...any) {
	if is {
		*w = append(*w, fmt.Sprintf(form, args...))
	}
}

func (w words) String() string {
	return strings.Join(w, " ")
}

func fieldsText(l []api.Field) string {
	var w words
	for _, f := range l {
		w.add(true, "%s=%s", f.Name, short(f.Value))
		w.add(f.Never, "never")
	}
	return "[" + w.String() + "]"
}

// short is a text as it is, or how it begins and how long it is.
func short(s string) string {
	if len(s) > 40 {
		return fmt.Sprintf("%.8s..(%d)", s, len(s))
	}
	return s
}

// eventText tells all of an event that is not zero.
func eventText(e api.Event) string {
	names := map[int]string{
		api.EvHead: "head", api.EvData: "data", api.EvTrail: "trail", api.EvReset: "reset",
		api.EvGoaway: "goaway", api.EvSettings: "settings", api.EvBroken: "broken",
	}
	w := words{names[e.Kind]}
	w.add(e.Stream != 0, "%d", e.Stream)
	w.add(len(e.Fields) > 0, "%s", fieldsText(e.Fields))
	w.add(len(e.Data) > 0, "%s", octetsText(e.Data))
	w.add(e.End, "end")
	w.add(e.Code != 0, "code %d", e.Code)
	w.add(e.Last != 0, "last %d", e.Last)
	return w.String()
}

// octetsText is octets as they are, or how many, if they are many.
func octetsText(b []byte) string {
	if len(b) > 32 {
		return fmt.Sprintf("%d octets", len(b))
	}
	return fmt.Sprintf("%q", b)
}

func eventsText(l []api.Event) string {
	var told []string
	for _, e := range l {
		told = append(told, eventText(e))
	}
	return strings.Join(told, "; ")
}

// frameText tells all of a frame that is not zero; a whole header block as
// its fields.
func frameText(f api.Frame, l []api.Field) string {
	names := []string{"DATA", "HEADERS", "PRIORITY", "RST", "SETTINGS", "PUSH", "PING", "GOAWAY", "UPDATE", "CONTINUATION"}
	w := words{}
	w.add(f.Kind < len(names), "%s", append(names, "")[min(f.Kind, len(names))])
	w.add(f.Kind >= len(names), "KIND %d", f.Kind)
	w.add(f.Stream != 0, "%d", f.Stream)
	w.add(f.Kind == api.Headers, "%s", fieldsText(l))
	w.add(f.Kind != api.Headers && len(f.Payload) > 0, "%s", octetsText(f.Payload))
	w.add(f.End, "end")
	w.add(f.Ack, "ack")
	w.add(f.Pad != 0, "pad %d", f.Pad)
	w.add(f.Code != 0, "code %d", f.Code)
	w.add(f.Last != 0, "last %d", f.Last)
	w.add(f.Inc != 0, "inc %d", f.Inc)
	for _, s := range f.List {
		w.add(true, "%d=%d", s.ID, s.Value)
	}
	return w.String()
}

// peer is the other end of a connection, that keeps no rules: it says what it
// is told to, and reads what the end says.
type peer struct {
	*conn.Conn
	t       *testing.T
	encoder *hpack.Encoder
	decoder *hpack.Decoder
	parser  *frame.Parser
	blocks  *block.Assembler
	pending []api.Event // told, and not yet asked
}

func newPeer(t *testing.T, server bool, own api.Values) *peer {
	return &peer{
		Conn:    conn.New(server, own),
		t:       t,
		encoder: hpack.NewEncoder(4096),
		decoder: hpack.NewDecoder(4096, most),
		parser:  frame.New(api.MostFrame),
		blocks:  block.New(most),
	}
}

// server and client are ends that have got the peer's first SETTINGS, and of
// which all has gone out.
func server(t *testing.T, more ...api.Setting) *peer {
	t.Helper()
	return serverOf(t, settings.Default(), more...)
}

func client(t *testing.T, more ...api.Setting) *peer {
	t.Helper()
	return clientOf(t, settings.Default(), more...)
}

func serverOf(t *testing.T, own api.Values, more ...api.Setting) *peer {
	t.Helper()
	p := newPeer(t, true, own)
	if l := p.Feed([]byte(api.Preface)); len(l) != 0 {
		t.Fatalf("of the preface: %s", eventsText(l))
	}
	p.begin(more)
	return p
}

func clientOf(t *testing.T, own api.Values, more ...api.Setting) *peer {
	t.Helper()
	p := newPeer(t, false, own)
	if b := string(p.Out(len(api.Preface))); b != api.Preface {
		t.Fatalf("preface %q", b)
	}
	p.begin(more)
	return p
}

func (p *peer) begin(more []api.Setting) {
	p.t.Helper()
	p.gets(api.Frame{Kind: api.Settings, List: more})
	p.tells("settings")
	if l := p.read(); len(l) != 2 || l[1] != "SETTINGS ack" {
		p.t.Fatalf("sent first: %q", l)
	}
}

// octetsOf are those of frames. What may not be written can't be asked.
func octetsOf(t *testing.T, l ...api.Frame) []byte {
	t.Helper()
	var all []byte
	for _, f := range l {
		b, e := frame.Write(f)
		if e != api.OK {
			t.Fatalf("Write of %v: %v", f, e)
		}
		all = append(all, b...)
	}
	return all
}

// feeds hands octets to the end, and gets frames; what is told is asked by
// tells.
func (p *peer) feeds(b []byte) {
	p.pending = append(p.pending, p.Feed(b)...)
}

func (p *peer) gets(l ...api.Frame) {
	p.t.Helper()
	p.feeds(octetsOf(p.t, l...))
}

// tells holds what was told since the last tells against what is asked.
func (p *peer) tells(want ...string) {
	p.t.Helper()
	got := eventsText(p.pending)
	p.pending = nil
	if got != strings.Join(want, "; ") {
		p.t.Errorf("told: %s; want %s", got, strings.Join(want, "; "))
	}
}

// skip asks for nothing of what was told so far.
func (p *peer) skip() {
	p.pending = nil
}

// read is all frames that the end has to send.
func (p *peer) read() []string {
	p.t.Helper()
	b := p.Out(all)
	if n := p.parser.Feed(b); n != len(b) {
		p.t.Fatalf("%d octets of %d taken", n, len(b))
	}
	var l []string
	for {
		f, wrong, ok := p.parser.Next()
		if !ok {
			break
		}
		whole, ok, bad := p.blocks.Step(f)
		if wrong.Is || bad.Is {
			p.t.Fatalf("frame %v: %v, %v", f, wrong, bad)
		}
		if ok {
			l = append(l, frameText(whole, p.decoded(whole)))
		}
	}
	return l
}

// decoded is the fields of a frame, if it is a header block.
func (p *peer) decoded(f api.Frame) []api.Field {
	p.t.Helper()
	if f.Kind != api.Headers {
		return nil
	}
	l, e := p.decoder.Decode(f.Payload)
	if e != api.OK {
		p.t.Fatalf("block of %d: %v", f.Stream, e)
	}
	return l
}

// sends holds all that the end has to send against what is asked.
func (p *peer) sends(want ...string) {
	p.t.Helper()
	if got := p.read(); !slices.Equal(got, want) {
		p.t.Errorf("sent: %s; want %s", strings.Join(got, "; "), strings.Join(want, "; "))
	}
}

// is holds an answer against what is asked.
func (p *peer) is(got, want api.Errno) {
	p.t.Helper()
	if got != want {
		p.t.Errorf("%v; want %v", got, want)
	}
}

// has asks how the end is.
func (p *peer) has(streams, waits, held int) {
	p.t.Helper()
	if p.Streams() != streams || p.Waits() != waits || p.Held() != held {
		p.t.Errorf("Streams %d, Waits %d, Held %d; want %d, %d, %d", p.Streams(), p.Waits(), p.Held(), streams, waits, held)
	}
}

// breaks asks that the end told just that it broke with a code, and sent just
// that, with a last stream.
func (p *peer) breaks(code api.Code, last int) {
	p.t.Helper()
	p.tells(eventText(api.Event{Kind: api.EvBroken, Code: code}))
	p.isBroken(code, last)
}

// isBroken asks that all that the end sends is that it broke.
func (p *peer) isBroken(code api.Code, last int) {
	p.t.Helper()
	if !p.Broken() || p.Done() || p.Streams() != 0 || p.Waits() != 0 {
		p.t.Errorf("Broken %v, Done %v, Streams %d, Waits %d", p.Broken(), p.Done(), p.Streams(), p.Waits())
	}
	p.sends(frameText(api.Frame{Kind: api.Goaway, Last: last, Code: code}, nil))
	if !p.Broken() || !p.Done() {
		p.t.Errorf("then: Broken %v, Done %v", p.Broken(), p.Done())
	}
}

// resets asks that the end told just that it reset a stream, and sent just
// that.
func (p *peer) resets(id int, code api.Code) {
	p.t.Helper()
	p.tells(eventText(api.Event{Kind: api.EvReset, Stream: id, Code: code, End: true}))
	p.sends(frameText(api.Frame{Kind: api.RstStream, Stream: id, Code: code}, nil))
}

// headers is a block of the peer's, whole.
func (p *peer) headers(id int, l []api.Field, end bool) api.Frame {
	return api.Frame{Kind: api.Headers, Stream: id, End: end, EndHeaders: true, Payload: p.encoder.Encode(l)}
}

// block is a block of the peer's in pieces.
func (p *peer) block(id int, l []api.Field, end bool, piece int) []api.Frame {
	f := p.headers(id, l, end)
	left := f.Payload
	var frames []api.Frame
	for len(left) > piece {
		f.EndHeaders = false
		f.Payload = left[:piece]
		left = left[piece:]
		frames = append(frames, f)
		f = api.Frame{Kind: api.Continuation, Stream: id}
	}
	f.EndHeaders = true
	f.Payload = left
	return append(frames, f)
}

func data(id int, text string, end bool) api.Frame {
	return api.Frame{Kind: api.Data, Stream: id, End: end, Payload: []byte(text)}
}

// octets is a DATA of so many octets.
func octets(id, n int) api.Frame {
	return data(id, strings.Repeat("x", n), false)
}

func padded(f api.Frame, pad int) api.Frame {
	f.Pad = pad
	return f
}

func rst(id int, code api.Code) api.Frame {
	return api.Frame{Kind: api.RstStream, Stream: id, Code: code}
}

func update(id, inc int) api.Frame {
	return api.Frame{Kind: api.WindowUpdate, Stream: id, Inc: inc}
}

func says(l ...api.Setting) api.Frame {
	return api.Frame{Kind: api.Settings, List: l}
}

func setting(id int, value uint32) api.Setting {
	return api.Setting{ID: id, Value: value}
}

// raw is a frame as it stands on the wire, be it right or not.
func raw(kind, flags byte, stream int, payload string) []byte {
	n := len(payload)
	head := []byte{byte(n >> 16), byte(n >> 8), byte(n), kind, flags, byte(stream >> 24), byte(stream >> 16), byte(stream >> 8), byte(stream)}
	return append(head, payload...)
}

// noInc is a WINDOW_UPDATE of 0, a fault of its stream.
func noInc(stream int) []byte {
	return raw(api.WindowUpdate, 0, stream, "\x00\x00\x00\x00")
}

// asked is a server of which a client has opened a stream: its request is told
// and read.
func asked(t *testing.T, id int, end bool, more ...string) *peer {
	t.Helper()
	p := server(t)
	p.asks(id, end, more...)
	return p
}

// asks lets the peer open a stream.
func (p *peer) asks(id int, end bool, more ...string) {
	p.t.Helper()
	l := request("POST", more...)
	got := eventsText(p.Feed(octetsOf(p.t, p.headers(id, l, end))))
	if want := eventText(api.Event{Kind: api.EvHead, Stream: id, Fields: l, End: end}); got != want {
		p.t.Errorf("told: %s; want %s", got, want)
	}
}

// asking is a client that has opened a stream, and of which that has gone out.
func asking(t *testing.T, end bool) *peer {
	t.Helper()
	p := client(t)
	p.opens(1, end)
	return p
}

// opens lets the end open a stream.
func (p *peer) opens(id int, end bool) {
	p.t.Helper()
	l := request("POST")
	if got, e := p.Request(l, end); got != id || e != api.OK {
		p.t.Fatalf("Request: %d, %v; want %d", got, e, id)
	}
	p.sends(frameText(api.Frame{Kind: api.Headers, Stream: id, End: end}, l))
}

// answers lets the end answer.
func (p *peer) answers(id int, end bool) {
	p.t.Helper()
	p.is(p.Respond(id, answer("200"), end), api.OK)
	p.sends(frameText(api.Frame{Kind: api.Headers, Stream: id, End: end}, answer("200")))
}

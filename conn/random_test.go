package conn_test

import (
	"fmt"
	"math/rand"
	"slices"
	"strings"
	"testing"

	"flume/api"
	"flume/conn"
	"flume/frame"
	"flume/hpack"
)

// driver does the same with an end and with a model of it, and holds their
// answers together.
type driver struct {
	t       *testing.T
	r       *rand.Rand
	c       *conn.Conn
	m       *model
	encoder *hpack.Encoder // the peer's
	wild    int            // one of so many things that come is wrong, 0: none
	big     bool
	queue   []byte       // what comes next, be it cut anywhere
	over    map[int]bool // streams that the peer has ended, or reset
	begun   map[int]bool // streams of which the peer's head comes
	opened  int          // the last one that the peer has opened
	chunks  []api.Chunk
	log     []string
}

func pick[T any](r *rand.Rand, l ...T) T {
	return l[r.Intn(len(l))]
}

func newDriver(t *testing.T, seed int64, server bool) *driver {
	r := rand.New(rand.NewSource(seed))
	own := api.Values{
		Streams: pick(r, -1, -1, 0, 1, 2, 3, 100),
		Window:  pick(r, 0, 65535, 65536, 70000),
		Frame:   pick(r, 0, 16384, 16400),
		List:    pick(r, -1, -1, 200, 300),
	}
	d := &driver{t: t, r: r, c: conn.New(server, own), m: newModel(server, own), encoder: hpack.NewEncoder(4096), wild: pick(r, 0, 0, 500, 60, 20), big: r.Intn(4) == 0, over: map[int]bool{}, begun: map[int]bool{}}
	if server {
		d.queue = append(d.queue, api.Preface...)
	}
	d.comes(api.Frame{Kind: api.Settings, List: d.someSettings()})
	return d
}

// note keeps what was done, to be told if it goes wrong.
func (d *driver) note(form string, args ...any) {
	d.log = append(d.log, fmt.Sprintf(form, args...))
}

func (d *driver) fail(form string, args ...any) {
	d.t.Helper()
	d.t.Fatalf("%s\nbehind:\n%s", fmt.Sprintf(form, args...), strings.Join(d.log[max(0, len(d.log)-40):], "\n"))
}

func (d *driver) isWild() bool {
	return d.wild > 0 && d.r.Intn(d.wild) == 0
}

// comes lets a frame come. What may not be written doesn't.
func (d *driver) comes(f api.Frame) {
	b, e := frame.Write(f)
	if e == api.OK {
		d.note("comes %s", frameText(f, nil))
		d.over[f.Stream] = d.over[f.Stream] || f.End || f.Kind == api.RstStream
		d.queue = append(d.queue, b...)
	}
}

func (d *driver) someSettings() []api.Setting {
	var l []api.Setting
	for range d.r.Intn(3) {
		s := pick(d.r,
			setting(1, pick(d.r, uint32(0), 50, 100, 4096, 8000)),
			setting(3, pick(d.r, uint32(1), 2, 3, 100)),
			setting(4, pick(d.r, uint32(0), 1, 5, 100, 20000, 65535, 70000)),
			setting(5, pick(d.r, uint32(16384), 16385, 20000)),
			setting(6, 1000), setting(8, 1),
		)
		if d.isWild() {
			s = pick(d.r, setting(2, 1), setting(2, 2), setting(4, most), setting(4, most+1), setting(5, 5), setting(3, 0))
		}
		l = append(l, s)
	}
	return l
}

// someStream is the number of a stream that the peer knows, mostly.
func (d *driver) someStream() int {
	var l []int
	for _, x := range d.m.order {
		if x.lives && !d.m.isNew(x.id) && !d.over[x.id] {
			l = append(l, x.id, x.id, x.id)
		} else if d.isWild() || slices.Contains(d.m.resets, x.id) && !d.over[x.id] {
			l = append(l, x.id)
		}
	}
	if d.isWild() {
		l = append(l, 1+d.r.Intn(2*len(d.m.order)+3))
	}
	if len(l) == 0 {
		return 0
	}
	return pick(d.r, l...)
}

func (d *driver) someText() string {
	n := d.r.Intn(6)
	if d.big {
		n = d.r.Intn(16384)
	}
	return strings.Repeat("x", n)
}

func (d *driver) someFields() []api.Field {
	l := list("a", pick(d.r, "1", "2"), "b", pick(d.r, "1", "2"), "c", strings.Repeat("~", d.r.Intn(100)))[:d.r.Intn(4)]
	if d.r.Intn(5) == 0 {
		l = append(l, api.Field{Name: "d", Value: pick(d.r, "1", "2"), Never: true})
	}
	if d.isWild() {
		l = append(l, pick(d.r, list("A", "b"), list("te", "x"), list(":path", "/"), answer("200"), request("GET"), list("e", strings.Repeat("~", 300)))...)
	}
	return l
}

func (d *driver) someRequest() []api.Field {
	l := request(pick(d.r, "GET", "POST", "HEAD"), d.someLength()...)
	return append(l, d.someFields()...)
}

func (d *driver) someAnswer() []api.Field {
	l := answer(pick(d.r, "200", "200", "204", "304", "404"), d.someLength()...)
	if d.isWild() {
		l = answer(pick(d.r, "100", "20"))
	}
	return append(l, d.someFields()...)
}

func (d *driver) someLength() []string {
	if d.r.Intn(4) == 0 {
		return []string{"content-length", pick(d.r, "0", "1", "3", "5")}
	}
	return nil
}

// block lets a block come, perhaps in pieces.
func (d *driver) block(id int, l []api.Field, end bool) {
	b := d.encoder.Encode(l)
	f := api.Frame{Kind: api.Headers, Stream: id, End: end}
	if d.r.Intn(5) == 0 {
		f.Pad, f.Prio, f.Weight = d.r.Intn(5), true, 7
	}
	for d.r.Intn(3) == 0 && len(b) > 0 {
		n := d.r.Intn(len(b))
		f.Payload, b = b[:n], b[n:]
		d.comes(f)
		f = api.Frame{Kind: api.Continuation, Stream: id}
		if d.isWild() {
			d.someControl()
		}
	}
	f.Payload, f.EndHeaders = b, !d.isWild()
	d.comes(f)
}

// opening lets a client open a stream.
func (d *driver) opening() {
	d.opened += 1 + d.opened%2 + 2*d.r.Intn(2)
	d.begun[d.opened] = true
	d.block(d.opened, d.someRequest(), d.r.Intn(3) == 0)
}

// saying lets something come on a stream.
func (d *driver) saying() {
	id := d.someStream()
	if id == 0 {
		return
	}
	x := d.m.streams[id]
	end := d.r.Intn(4) == 0
	switch n := d.r.Intn(10); {
	case !d.begun[id] && n < 8:
		l := d.someAnswer()
		if d.r.Intn(4) == 0 {
			l, end = answer("103"), d.isWild()
		} else {
			d.begun[id] = true
		}
		d.block(id, l, end)
	case !d.begun[id] && !d.isWild():
		d.comes(update(id, 1))
	case n < 6:
		text := d.someText()
		if x != nil && x.length >= 0 && !d.isWild() {
			text = strings.Repeat("x", min(len(text), max(0, x.length-x.came)))
			end = x.came+len(text) >= x.length
		}
		d.comes(api.Frame{Kind: api.Data, Stream: id, End: end, Payload: []byte(text), Pad: pick(d.r, 0, 0, 0, 1, 5, 256)})
	case n < 8:
		d.block(id, d.someFields(), !d.isWild())
	case n == 8:
		d.comes(rst(id, pick(d.r, api.NoError, api.Cancel, 77)))
	default:
		inc := 1 + d.r.Intn(20)
		if d.isWild() {
			inc = pick(d.r, most, most-65535, most/2)
		}
		d.comes(update(id, inc))
	}
}

// someControl lets something come that is of the connection, or of no use.
func (d *driver) someControl() {
	switch d.r.Intn(9) {
	case 0, 1:
		d.comes(api.Frame{Kind: api.Settings, List: d.someSettings()})
	case 2:
		d.comes(api.Frame{Kind: api.Ping, Ack: d.r.Intn(2) == 0, Payload: []byte("12345678")})
	case 3:
		d.comes(api.Frame{Kind: api.Settings, Ack: true})
	case 4, 5:
		inc := 1 + d.r.Intn(20000)
		if d.isWild() {
			inc = most
		}
		d.comes(update(0, inc))
	case 6:
		d.comes(api.Frame{Kind: api.Priority, Stream: 1 + d.r.Intn(9), Weight: 5})
	case 7:
		d.comes(api.Frame{Kind: 10 + d.r.Intn(246), Stream: d.r.Intn(9), Flags: d.r.Intn(256), Payload: []byte(d.someText())})
	default:
		if d.r.Intn(10) == 0 {
			d.comes(api.Frame{Kind: api.Goaway, Last: d.r.Intn(9), Code: pick(d.r, api.NoError, 11)})
		}
	}
}

// damage lets something come that is wrong.
func (d *driver) damage() {
	id := d.someStream()
	b := pick(d.r,
		noInc(id), noInc(1+d.r.Intn(9)), noInc(0), raw(api.Priority, 0, id, "123"), raw(api.Priority, 0, 1+d.r.Intn(9), "123"),
		raw(api.Ping, 0, 0, "123"), raw(api.PushPromise, 4, 1, "\x00\x00\x00\x02"), raw(api.Continuation, 4, id, ""),
		raw(api.Headers, 4, id, "\x80"), raw(api.Headers, 5, id, strings.Repeat("\x90", 50)), raw(0, 8, id, "\x05abc"), raw(99, 0, 0, strings.Repeat("x", 17000)),
	)
	d.note("comes %x", b[:min(len(b), 30)])
	d.queue = append(d.queue, b...)
}

// feed hands over what came, or some of it.
func (d *driver) feed() {
	n := len(d.queue)
	if d.r.Intn(3) == 0 {
		n = d.r.Intn(n + 1)
	}
	b := d.queue[:n]
	d.queue = d.queue[n:]
	got, want := eventsText(d.c.Feed(b)), eventsText(d.m.feed(b))
	d.chunks = append(d.chunks, api.Chunk{Bytes: b})
	d.note("Feed of %d: %s", n, got)
	if got != want {
		d.fail("told: %s\nwant: %s", got, want)
	}
}

// anyStream is the number of a stream, or of none at times.
func (d *driver) anyStream() int {
	var l []int
	for _, x := range d.m.order {
		if x.lives {
			l = append(l, x.id)
		}
	}
	if len(l) == 0 || d.r.Intn(10) == 0 {
		return d.r.Intn(2*len(d.m.order)+3) - 1
	}
	return pick(d.r, l...)
}

func (d *driver) call() {
	id := d.anyStream()
	end := d.r.Intn(3) == 0
	var got, want any
	switch d.r.Intn(12) {
	case 0, 1:
		l := d.someRequest()
		n, e := d.c.Request(l, end)
		wantN, wantE := d.m.request(l, end)
		got, want = fmt.Sprint(n, e), fmt.Sprint(wantN, wantE)
		d.note("Request: %v", got)
	case 2, 3:
		l := d.someAnswer()
		got, want = d.c.Respond(id, l, end), d.m.respond(id, l, end)
		d.note("Respond to %d %s, %v: %v", id, fieldsText(l), end, got)
	case 4, 5, 6:
		b := []byte(d.someText())
		got, want = d.c.Data(id, b, end), d.m.put(id, b, end)
		d.note("Data of %d, %d, %v: %v", id, len(b), end, got)
	case 7:
		l := d.someFields()
		got, want = d.c.Trail(id, l), d.m.trail(id, l)
		d.note("Trail of %d %s: %v", id, fieldsText(l), got)
	case 8:
		if d.r.Intn(4) != 0 {
			return
		}
		got, want = d.c.Reset(id, 8), d.m.resetOurs(id, 8)
		d.note("Reset of %d: %v", id, got)
	case 9:
		if d.r.Intn(25) != 0 {
			return
		}
		d.c.Shutdown()
		d.m.shutdown()
		d.note("Shutdown")
	default:
		n := d.r.Intn(4) - 1
		if x := d.m.streams[id]; x != nil && d.r.Intn(5) != 0 {
			n = x.credit.held() - d.r.Intn(2)*d.r.Intn(x.credit.held()+1)
		}
		got, want = d.c.Consumed(id, n), d.m.consumed(id, n)
		d.note("Consumed of %d, %d: %v", id, n, got)
	}
	if got != want {
		d.fail("%v; want %v", got, want)
	}
}

func (d *driver) out(n int) {
	got, want := string(d.c.Out(n)), d.m.out(n)
	d.note("Out(%d): %d", n, len(got))
	d.chunks = append(d.chunks, api.Chunk{Out: true, Bytes: []byte(got)})
	if got != want {
		d.fail("Out(%d): %q\nwant %q", n, short(got), short(want))
	}
}

// agree holds all that can be seen of both together.
func (d *driver) agree() {
	streams, waits := d.m.count()
	got := fmt.Sprint(d.c.Streams(), d.c.Waits(), d.c.Held(), d.c.Broken(), d.c.Done())
	if want := fmt.Sprint(streams, waits, d.m.credit.held(), d.m.broken, d.m.done()); got != want {
		d.fail("Streams, Waits, Held, Broken, Done: %s; want %s", got, want)
	}
	if d.r.Intn(4) == 0 {
		sent := d.m.sent
		d.m.sent = nil
		if got := d.c.Sent(); !slices.Equal(got, sent) {
			d.fail("Sent: %v; want %v", got, sent)
		}
	}
}

func (d *driver) step() {
	switch n := d.r.Intn(20); {
	case n < 3 && d.m.server:
		d.opening()
	case n < 8:
		d.saying()
	case n < 10:
		d.someControl()
	case n < 15:
		d.call()
	case n == 15:
		d.out(d.r.Intn(30))
	case n == 16:
		d.out(d.r.Intn(100000))
	case n == 17 && d.isWild():
		d.damage()
	default:
		d.feed()
	}
	d.agree()
}

func TestConnIsAsThePlainModel(t *testing.T) {
	for seed := range int64(4000) {
		d := newDriver(t, seed, seed%2 == 0)
		for range 150 {
			d.step()
		}
		d.feed()
		d.out(1 << 20)
		d.agree()
		isLegal(t, seed%2 == 0, d.chunks)
		if t.Failed() {
			t.Fatalf("seed %d", seed)
		}
	}
}

package conn_test

import (
	"math/rand"
	"strings"
	"testing"

	"flume/api"
	"flume/conn"
)

// pair is two ends that are handed what the other one told.
type pair struct {
	t      *testing.T
	r      *rand.Rand
	ends   [2]*conn.Conn // the client, and the server
	wires  [2][]byte     // what each one wrote, and the other one has not got
	chunks [2][]api.Chunk
	said   [2]map[int]*talk // what each one said
	told   [2]map[int]*talk // what of that the other one told
	lost   map[int]bool     // streams that were reset
	held   [2]map[int]int   // what came and was not consumed
	resets int
	big    int
}

// talk is what is said on a stream one way.
type talk struct {
	head, trail string
	data        strings.Builder
	out, end    bool
}

func newPair(t *testing.T, seed int64) *pair {
	r := rand.New(rand.NewSource(seed))
	p := &pair{t: t, r: r, lost: map[int]bool{}, big: pick(r, 10, 1000, 30000)}
	for i := range p.ends {
		own := api.Values{
			Streams: pick(r, -1, 1, 3, 100), Window: pick(r, 0, 65536, 200000), Frame: pick(r, 0, 16385, 20000), List: -1,
		}
		p.ends[i] = conn.New(i == 1, own)
		p.said[i], p.told[i], p.held[i] = map[int]*talk{}, map[int]*talk{}, map[int]int{}
	}
	return p
}

// someStream is one on which an end has said something and not ended, or 0.
func (p *pair) someStream(end int) int {
	var l []int
	for id, x := range p.said[end] {
		if x.out && !x.end && !p.lost[id] {
			l = append(l, id)
		}
	}
	if len(l) == 0 {
		return 0
	}
	least := l[0]
	for _, id := range l {
		least = min(least, id)
	}
	return least
}

func (p *pair) is(e api.Errno) {
	p.t.Helper()
	if e != api.OK {
		p.t.Errorf("%v", e)
	}
}

func (p *pair) someFields(l []api.Field) []api.Field {
	for _, name := range []string{"a", "b", "c"} {
		if p.r.Intn(3) == 0 {
			l = append(l, api.Field{Name: name, Value: strings.Repeat(pick(p.r, "1", "~"), p.r.Intn(200)), Never: p.r.Intn(5) == 0})
		}
	}
	if p.r.Intn(30) == 0 {
		l = append(l, api.Field{Name: "long", Value: strings.Repeat("~", 20000)})
	}
	return l
}

func (p *pair) request() {
	l, end := p.someFields(request("POST")), p.r.Intn(4) == 0
	id, e := p.ends[0].Request(l, end)
	if e == api.OK {
		p.said[0][id] = &talk{head: fieldsText(l), out: true, end: end}
		p.said[1][id] = &talk{}
	} else if e != api.ErrFull && e != api.ErrState {
		p.t.Errorf("Request: %v", e)
	}
}

// respond answers the oldest stream that was told and is not answered, if there
// is one.
func (p *pair) respond() bool {
	for id := 1; id < 2*len(p.said[0])+1; id += 2 {
		if x := p.told[0][id]; x == nil || p.said[1][id].out || p.lost[id] {
			continue
		}
		l, end := p.someFields(answer("200")), p.r.Intn(4) == 0
		p.is(p.ends[1].Respond(id, l, end))
		*p.said[1][id] = talk{head: fieldsText(l), out: true, end: end}
		return true
	}
	return false
}

func (p *pair) data(end int) {
	if id := p.someStream(end); id != 0 {
		x, text := p.said[end][id], strings.Repeat(pick(p.r, "x", "y"), p.r.Intn(p.big))
		x.end = p.r.Intn(4) == 0
		x.data.WriteString(text)
		p.is(p.ends[end].Data(id, []byte(text), x.end))
	}
}

func (p *pair) trail(end int) {
	if id := p.someStream(end); id != 0 {
		l := p.someFields(nil)
		p.said[end][id].trail, p.said[end][id].end = fieldsText(l), true
		p.is(p.ends[end].Trail(id, l))
	}
}

func (p *pair) reset(end int) {
	// No more than are remembered.
	if id := p.someStream(end); id != 0 && p.resets < 60 {
		p.resets++
		p.lost[id] = true
		p.is(p.ends[end].Reset(id, api.Cancel))
		delete(p.held[end], id)
	}
}

// write lets an end write, and get lets it get some of what the other one
// wrote.
func (p *pair) write(end, n int) {
	b := p.ends[end].Out(n)
	p.wires[end] = append(p.wires[end], b...)
	p.chunks[end] = append(p.chunks[end], api.Chunk{Out: true, Bytes: b})
}

func (p *pair) get(end, n int) {
	other := 1 - end
	n = min(n, len(p.wires[other]))
	b := p.wires[other][:n:n]
	p.wires[other] = p.wires[other][n:]
	p.chunks[end] = append(p.chunks[end], api.Chunk{Bytes: b})
	for _, e := range p.ends[end].Feed(b) {
		p.event(end, other, e)
	}
	if p.ends[end].Broken() {
		p.t.Fatalf("end %d broke", end)
	}
	if n := p.ends[end].Held(); n > 65535 {
		p.t.Errorf("end %d holds %d", end, n)
	}
}

func (p *pair) event(end, other int, e api.Event) {
	x := p.told[other][e.Stream]
	switch e.Kind {
	case api.EvHead:
		if x != nil {
			p.t.Fatalf("a second head: %s", eventText(e))
		}
		p.told[other][e.Stream] = &talk{head: fieldsText(e.Fields), out: true, end: e.End}
	case api.EvData:
		x.data.Write(e.Data)
		x.end = e.End
		p.held[end][e.Stream] += len(e.Data)
	case api.EvTrail:
		x.trail, x.end = fieldsText(e.Fields), e.End
	case api.EvReset:
		if e.End {
			p.t.Fatalf("a fault: %s", eventText(e))
		}
		p.lost[e.Stream] = true
		delete(p.held[end], e.Stream)
	case api.EvGoaway, api.EvSettings:
	default:
		p.t.Fatalf("told: %s", eventText(e))
	}
}

func (p *pair) consume(end int) {
	for id := 1; id < 2*len(p.said[0])+1; id += 2 {
		if n := p.held[end][id]; n > 0 {
			if p.r.Intn(2) == 0 {
				n = p.r.Intn(n + 1)
			}
			p.held[end][id] -= n
			p.is(p.ends[end].Consumed(id, n))
			return
		}
	}
}

func (p *pair) step() {
	end := p.r.Intn(2)
	switch p.r.Intn(12) {
	case 0:
		p.request()
	case 1:
		p.respond()
	case 2, 3:
		p.data(end)
	case 4:
		if p.r.Intn(4) == 0 {
			p.trail(end)
		}
	case 5:
		if p.r.Intn(4) == 0 {
			p.reset(end)
		}
	case 6, 7:
		p.write(end, p.r.Intn(p.big*2))
	case 8, 9, 10:
		p.get(end, p.r.Intn(p.big*2))
	default:
		p.consume(end)
	}
}

// finish lets all go out, come, and be consumed, and all that was begun end.
func (p *pair) finish() {
	for range 1000 {
		moves := 0
		for end := range p.ends {
			p.write(end, 1<<30)
			moves += len(p.wires[end])
		}
		for end := range p.ends {
			p.get(end, 1<<30)
			for id := 1; id < 2*len(p.said[0])+1; id += 2 {
				if n := p.held[end][id]; n > 0 {
					moves++
					p.held[end][id] = 0
					p.is(p.ends[end].Consumed(id, n))
				}
			}
			for id := p.someStream(end); id != 0; id = p.someStream(end) {
				moves++
				p.said[end][id].end = true
				p.is(p.ends[end].Data(id, nil, true))
			}
		}
		if !p.respond() && moves == 0 {
			return
		}
	}
	p.t.Error("it goes on and on")
}

// compare holds what was told against what was said.
func (p *pair) compare(whole bool) {
	p.t.Helper()
	for end := range p.ends {
		for id, told := range p.told[end] {
			said := p.said[end][id]
			if told.head != said.head || !strings.HasPrefix(said.data.String(), told.data.String()) {
				p.t.Errorf("end %d, stream %d: head or data", end, id)
			}
			if told.end && (said.data.String() != told.data.String() || told.trail != said.trail || !said.end) {
				p.t.Errorf("end %d, stream %d: end", end, id)
			}
			if whole && !p.lost[id] && !told.end {
				p.t.Errorf("end %d, stream %d: did not end", end, id)
			}
		}
	}
	for id := range p.said[0] {
		if whole && !p.lost[id] && (p.told[0][id] == nil || p.told[1][id] == nil) {
			p.t.Errorf("stream %d: nothing was told", id)
		}
	}
}

func TestTwoEnds(t *testing.T) {
	for seed := range int64(300) {
		p := newPair(t, seed)
		for i := range 600 {
			p.step()
			if i == 400 && seed%3 == 0 {
				p.ends[seed/3%2].Shutdown()
			}
		}
		p.compare(false)
		p.finish()
		p.compare(true)
		for end := range p.ends {
			c := p.ends[end]
			if c.Streams() != 0 || c.Waits() != 0 || c.Held() != 0 || c.Done() != (seed%3 == 0 && int64(end) == seed/3%2) {
				t.Errorf("end %d: Streams %d, Waits %d, Held %d, Done %v", end, c.Streams(), c.Waits(), c.Held(), c.Done())
			}
			isLegal(t, end == 1, p.chunks[end])
		}
		if t.Failed() {
			t.Fatalf("seed %d", seed)
		}
	}
}

// Into which pieces octets are cut does not matter: what is told is the same,
// and what is sent.
func TestPiecesDoNotMatter(t *testing.T) {
	for seed := range int64(300) {
		isServer := seed%2 == 0
		d := newDriver(t, seed, isServer)
		for range 60 {
			if isServer {
				d.opening()
			}
			d.saying()
			d.someControl()
			if d.isWild() {
				d.damage()
			}
		}
		own := api.Values{Streams: 3, List: -1}
		whole := conn.New(isServer, own)
		told := eventsText(whole.Feed(d.queue))
		out := string(whole.Out(all))
		for _, most := range []int{1, 3, 50} {
			c := conn.New(isServer, own)
			var l []api.Event
			for b := d.queue; len(b) > 0; {
				n := min(len(b), 1+d.r.Intn(most))
				l = append(l, c.Feed(b[:n])...)
				b = b[n:]
			}
			if got := eventsText(l); got != told {
				t.Fatalf("seed %d: %s; want %s", seed, got, told)
			}
			if got := string(c.Out(all)); got != out {
				t.Fatalf("seed %d: %x; want %x", seed, got, out)
			}
		}
	}
}

// Whatever comes, nothing panics, all ends, and what is written is legal.
func FuzzFeed(f *testing.F) {
	f.Add(true, []byte(api.Preface+"\x00\x00\x00\x04\x00\x00\x00\x00\x00\x00\x00\x03\x01\x05\x00\x00\x00\x01\x82\x84\x86"), byte(7))
	f.Add(false, []byte("\x00\x00\x00\x04\x00\x00\x00\x00\x00\x00\x00\x01\x01\x05\x00\x00\x00\x01\x88"), byte(200))
	f.Add(true, []byte(api.Preface+"\x00\x00\x00\x04\x00\x00\x00\x00\x00\x00\x00\x03\x01\x04\x00\x00\x00\x01\x83\x84\x86\x00\x00\x03\x00\x09\x00\x00\x00\x01\x01a\x00"), byte(3))
	f.Fuzz(func(t *testing.T, isServer bool, b []byte, piece byte) {
		c := conn.New(isServer, api.Values{Streams: 2, List: 500})
		var chunks []api.Chunk
		c.Request(request("POST"), false)
		c.Data(1, []byte("abcdef"), false)
		for len(b) > 0 {
			n := min(len(b), int(piece)+1)
			for _, e := range c.Feed(b[:n]) {
				switch e.Kind {
				case api.EvHead:
					c.Respond(e.Stream, answer("200"), e.Stream%4 == 1)
				case api.EvData:
					c.Consumed(e.Stream, len(e.Data))
					c.Data(e.Stream, e.Data, e.End)
				case api.EvTrail:
					c.Trail(e.Stream, e.Fields)
				}
			}
			chunks = append(chunks, api.Chunk{Bytes: b[:n]}, api.Chunk{Out: true, Bytes: c.Out(int(piece) * 3)})
			b = b[n:]
		}
		chunks = append(chunks, api.Chunk{Out: true, Bytes: c.Out(all)})
		isLegal(t, isServer, chunks)
	})
}

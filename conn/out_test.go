package conn_test

import (
	"bytes"
	"math"
	"slices"
	"strings"
	"testing"

	"flume/api"
	"flume/conn"
	"flume/settings"
)

// Out.

func TestOutOfNoRoom(t *testing.T) {
	p := newPeer(t, true, settings.Default())
	for _, n := range []int{0, -1, math.MinInt} {
		if b := p.Out(n); len(b) != 0 {
			t.Errorf("Out(%d): %x", n, b)
		}
	}
	if b := p.Out(math.MaxInt); len(b) != 9 {
		t.Errorf("%x", b)
	}
}

// Control frames go out in part, so that each room is filled.
func TestOutInPieces(t *testing.T) {
	whole := func(server bool) *conn.Conn { return newPeer(t, server, api.Values{}).Conn }
	for _, server := range []bool{false, true} {
		want := whole(server).Out(all)
		for n := 1; n < len(want)+2; n++ {
			c := whole(server)
			var got []byte
			for {
				b := c.Out(n)
				got = append(got, b...)
				if len(b) != min(n, len(want)-len(got)+len(b)) {
					t.Errorf("%d octets of %d", len(b), n)
				}
				if len(b) == 0 {
					break
				}
			}
			if !bytes.Equal(got, want) {
				t.Errorf("pieces of %d: %x; want %x", n, got, want)
			}
		}
	}
}

// DATA goes out whole: as many octets as have room behind its head.
func TestOutOfData(t *testing.T) {
	for _, x := range []struct {
		room int
		want string
	}{{0, ""}, {8, ""}, {9, ""}, {10, "a"}, {12, "abc"}, {14, "abcde"}, {15, "abcdef"}, {100, "abcdef"}} {
		p := asking(t, false)
		p.is(p.Data(1, []byte("abcdef"), false), api.OK)
		want := ""
		if x.want != "" {
			want = string(octetsOf(t, data(1, x.want, false)))
		}
		if b := p.Out(x.room); string(b) != want {
			t.Errorf("Out(%d): %q; want %q", x.room, b, want)
		}
		p.has(1, 6-len(x.want), 0)
	}
}

func TestOutOfAnEnd(t *testing.T) {
	for _, room := range []int{8, 9} {
		p := asking(t, false)
		p.is(p.Data(1, nil, true), api.OK)
		if b := p.Out(room); len(b) != room/9*9 {
			t.Errorf("Out(%d): %x", room, b)
		}
	}
}

// Streams are served by turns, as often as there is room.
func TestOutByTurns(t *testing.T) {
	p := client(t)
	p.opens(1, false)
	p.opens(3, false)
	p.is(p.Data(1, []byte(strings.Repeat("x", 40000)), true), api.OK)
	p.is(p.Data(3, []byte("abc"), true), api.OK)
	p.sends("DATA 1 16384 octets", `DATA 3 "abc" end`, "DATA 1 16384 octets", "DATA 1 7232 octets end")
	if b := p.Out(all); len(b) != 0 {
		t.Errorf("%x", b)
	}
}

// Control frames go ahead of data, but not into what has gone out in part.
func TestOutOfControlAhead(t *testing.T) {
	p := asked(t, 1, true)
	p.answers(1, false)
	p.is(p.Data(1, []byte("abc"), false), api.OK)
	p.gets(api.Frame{Kind: api.Ping, Payload: []byte("12345678")})
	out := p.Out(5)
	p.gets(says())
	out = append(out, p.Out(25)...)
	out = append(out, p.Out(all)...)
	want := octetsOf(t, api.Frame{Kind: api.Ping, Ack: true, Payload: []byte("12345678")}, api.Frame{Kind: api.Settings, Ack: true}, data(1, "abc", false))
	if !bytes.Equal(out, want) {
		t.Errorf("%x; want %x", out, want)
	}
}

func TestOutOfABrokenOne(t *testing.T) {
	p := asked(t, 1, true)
	p.answers(1, false)
	p.is(p.Data(1, []byte("abc"), true), api.OK)
	p.gets(api.Frame{Kind: api.Ping, Payload: []byte("12345678")})
	p.feeds(noInc(0))
	p.tells("broken code 1")
	p.has(0, 0, 0)
	if p.Done() {
		t.Error("done")
	}
	out := p.Out(18)
	if p.Done() {
		t.Error("done")
	}
	out = append(out, p.Out(15)...)
	if p.Done() {
		t.Error("done")
	}
	out = append(out, p.Out(1)...)
	if !p.Done() {
		t.Error("not done")
	}
	want := octetsOf(t, api.Frame{Kind: api.Ping, Ack: true, Payload: []byte("12345678")}, api.Frame{Kind: api.Goaway, Last: 1, Code: 1})
	if !bytes.Equal(out, want) {
		t.Errorf("%x; want %x", out, want)
	}
}

// The end of data closes a stream.
func TestOutCloses(t *testing.T) {
	p := asked(t, 1, true)
	p.answers(1, false)
	p.is(p.Data(1, []byte("abc"), true), api.OK)
	p.Out(11)
	p.has(1, 1, 0)
	p.Out(10)
	p.has(0, 0, 0)
	// One of which something is held stays.
	p = asked(t, 1, false)
	p.gets(data(1, "abc", true))
	p.answers(1, false)
	p.is(p.Data(1, nil, true), api.OK)
	p.sends("DATA 1 end")
	p.has(1, 0, 3)
	p.is(p.Consumed(1, 3), api.OK)
	p.has(0, 0, 0)
	// And one whose peer has not ended.
	p = asked(t, 1, false)
	p.answers(1, false)
	p.is(p.Data(1, nil, true), api.OK)
	p.sends("DATA 1 end")
	p.has(1, 0, 0)
	p.gets(data(1, "", true))
	p.has(0, 0, 0)
}

// What was answered is the caller's: R1.
func TestOutIsTheCallers(t *testing.T) {
	p := newPeer(t, false, settings.Default())
	var out []byte
	for range 13 {
		b := p.Out(3)
		out = append(out, b...)
		for i := range b {
			b[i] = 'x'
		}
		_ = append(b, "xxxxxxxx"...)
	}
	want := api.Preface + "\x00\x00\x06\x04\x00\x00\x00\x00\x00" + "\x00\x02\x00\x00\x00\x00"
	if string(out) != want {
		t.Errorf("%q", out)
	}
}

// What was handed in is the caller's, too, and so is what is told.
func TestNothingIsShared(t *testing.T) {
	p := server(t)
	b := octetsOf(t, p.headers(1, request("GET", "a", "b"), false), data(1, "abc", false), data(1, "def", false))
	cut := len(b) - 2
	l := p.Feed(b[:cut])
	for i := range b[:cut] {
		b[i] = 'x'
	}
	for i := range l {
		for j := range l[i].Data {
			l[i].Data[j] = 'y'
		}
		for j := range l[i].Fields {
			l[i].Fields[j] = api.Field{}
		}
		_ = append(l[i].Data, "zzzzzzzzzzzzzzzzzzz"...)
		l[i] = api.Event{}
	}
	p.feeds(b[cut:])
	p.tells(`data 1 "def"`)
	p.asks(3, true, "a", "b")
	fields := answer("200", "a", "b")
	p.is(p.Respond(1, fields, false), api.OK)
	octets := []byte("abc")
	p.is(p.Data(1, octets, false), api.OK)
	trailers := list("c", "d")
	p.is(p.Trail(1, trailers), api.OK)
	fields[1].Name, octets[0], trailers[0].Name = "x", 'x', "x"
	p.sends("HEADERS 1 [:status=200 a=b]", `DATA 1 "abc"`, "HEADERS 1 [c=d] end")
	sent := p.Sent()
	sent[0].Octets = 77
	p.is(p.Respond(3, answer("200"), false), api.OK)
	p.is(p.Data(3, octets, false), api.OK)
	p.read()
	if got := p.Sent(); !slices.Equal(got, []api.Sent{{Stream: 3, Octets: 3}}) || sent[0].Octets != 77 {
		t.Errorf("%v, %v", got, sent)
	}
}

// Sent.

func TestSent(t *testing.T) {
	p := client(t)
	p.opens(1, false)
	p.opens(3, false)
	p.is(p.Data(1, []byte("abcdef"), false), api.OK)
	p.is(p.Data(3, nil, true), api.OK)
	want := func(want ...api.Sent) {
		t.Helper()
		if got := p.Sent(); !slices.Equal(got, want) {
			t.Errorf("%v; want %v", got, want)
		}
	}
	want()
	p.Out(13)
	want(api.Sent{Stream: 1, Octets: 4})
	want()
	p.Out(all)
	p.is(p.Trail(1, nil), api.OK)
	p.Out(all)
	want(api.Sent{Stream: 3}, api.Sent{Stream: 1, Octets: 2})
	want()
	// It is told of streams that are no more.
	p.opens(5, false)
	p.is(p.Data(5, []byte("abc"), false), api.OK)
	p.read()
	p.feeds(noInc(0))
	want(api.Sent{Stream: 5, Octets: 3})
}

// Consumed.

func TestConsumed(t *testing.T) {
	p := asked(t, 1, false)
	p.gets(octets(1, 16384), octets(1, 16384), octets(1, 16384))
	p.has(1, 0, 49152)
	p.is(p.Consumed(1, 0), api.OK)
	p.is(p.Consumed(1, 32767), api.OK)
	p.sends()
	p.has(1, 0, 16385)
	p.is(p.Consumed(1, 1), api.OK)
	p.sends("UPDATE inc 32768", "UPDATE 1 inc 32768")
	p.is(p.Consumed(1, 16384), api.OK)
	p.has(1, 0, 0)
	p.sends()
	p.gets(octets(1, 16384))
	p.is(p.Consumed(1, 16384), api.OK)
	p.sends("UPDATE inc 32768", "UPDATE 1 inc 32768")
}

// A stream whose peer has ended gets no more, be it in what state it may.
func TestConsumedByStates(t *testing.T) {
	for _, x := range []struct {
		theirs, ours bool // who has ended
		want         []string
		left         int
	}{
		{false, false, []string{"UPDATE inc 32768", "UPDATE 1 inc 32768"}, 1},
		{false, true, []string{"UPDATE inc 32768", "UPDATE 1 inc 32768"}, 1},
		{true, false, []string{"UPDATE inc 32768"}, 1},
		{true, true, []string{"UPDATE inc 32768"}, 0},
	} {
		p := asked(t, 1, false)
		p.gets(octets(1, 16384), octets(1, 16384))
		if x.theirs {
			p.gets(data(1, "", true))
		}
		p.answers(1, x.ours)
		p.has(1, 0, 32768)
		p.is(p.Consumed(1, 32768), api.OK)
		p.sends(x.want...)
		p.has(x.left, 0, 0)
	}
}

func TestConsumedThatMayNotBe(t *testing.T) {
	p := asked(t, 1, false)
	p.asks(3, false)
	p.gets(data(1, "abc", false), data(3, "de", false))
	for _, n := range []int{-1, 4, 5, math.MinInt, math.MaxInt} {
		p.is(p.Consumed(1, n), api.ErrArg)
	}
	p.has(2, 0, 5)
	for _, id := range []int{0, -1, 2, 5, most} {
		p.is(p.Consumed(id, 1), api.ErrNone)
		p.is(p.Consumed(id, -1), api.ErrNone)
	}
	p.is(p.Consumed(1, 3), api.OK)
	p.is(p.Consumed(1, 1), api.ErrArg)
	p.has(2, 0, 2)
	p.feeds(noInc(0))
	p.is(p.Consumed(3, 2), api.ErrState)
}

// A request whose block has not gone out.

// Its number is new for all that comes, whatever was done with it since.
func TestRequestsOnTheirWay(t *testing.T) {
	long := request("POST", "a", strings.Repeat("~", 40000))
	for _, x := range []struct {
		name string
		f    []byte
		code api.Code
	}{
		{"headers", octetsOf(t, api.Frame{Kind: api.Headers, Stream: 1, EndHeaders: true, Payload: []byte("\x88")}), api.ProtocolError},
		{"data", octetsOf(t, data(1, "abc", false)), api.ProtocolError},
		{"reset", octetsOf(t, rst(1, 0)), api.ProtocolError},
		{"update", octetsOf(t, update(1, 1)), api.ProtocolError},
		{"a fault", raw(api.Priority, 0, 1, "1"), api.FrameSizeError},
	} {
		for _, first := range []func(p *peer){
			func(*peer) {},
			func(p *peer) { p.Reset(1, 8) },
			func(p *peer) { p.Data(1, []byte("abc"), true) },
			func(p *peer) { p.Trail(1, nil) },
		} {
			for _, l := range [][]api.Field{request("POST"), long} {
				p := client(t)
				p.Request(l, false)
				first(p)
				octets := len(p.Out(all))
				// How many octets the block has alone.
				q := client(t)
				q.Request(l, false)
				block := len(q.Out(all))
				for _, out := range []int{0, 1, block / 2, block - 1, block, octets} {
					p := client(t)
					p.Request(l, false)
					first(p)
					p.Out(out)
					p.feeds(x.f)
					got := eventsText(p.pending)
					if want := eventText(api.Event{Kind: api.EvBroken, Code: x.code}); (got == want) != (out < block) {
						t.Errorf("%s, %d of %d octets out: %s", x.name, out, block, got)
					}
				}
			}
		}
	}
}

// A block that begins ahead of the request is no answer to it, though it be
// whole only behind that.
func TestBlocksThatBeginAheadOfTheRequest(t *testing.T) {
	first := func(p *peer) api.Frame { return p.block(1, answer("200", "a", "b"), true, 3)[0] }
	for _, x := range []struct {
		name string
		do   func(p *peer)
		want string
	}{
		{"behind", func(p *peer) { p.Request(request("GET"), true); p.Out(all); p.gets(first(p)) }, "head 1 [:status=200 a=b] end"},
		{"ahead of its last octet", func(p *peer) {
			p.Request(request("GET"), true)
			p.Out(11)
			p.gets(first(p))
			p.Out(all)
		}, "broken code 1"},
		{"ahead of all", func(p *peer) {
			p.gets(first(p))
			p.Request(request("GET"), true)
			p.Out(all)
		}, "broken code 1"},
		{"ahead of a reset", func(p *peer) {
			p.Request(request("GET"), true)
			p.gets(first(p))
			p.Reset(1, 8)
			p.Out(all)
		}, "broken code 1"},
	} {
		p := client(t)
		x.do(p)
		p.tells()
		q := client(t)
		p.gets(q.block(1, answer("200", "a", "b"), true, 3)[1:]...)
		if got := eventsText(p.pending); got != x.want {
			t.Errorf("%s: %s; want %s", x.name, got, x.want)
		}
	}
}

// One that has gone out is known, though one behind it has not.
func TestRequestsBehindEachOther(t *testing.T) {
	p := client(t)
	p.Request(request("POST"), true)
	one := len(p.Out(all))
	for n := range 3 {
		p = client(t)
		for range 3 {
			p.Request(request("POST"), true)
		}
		if n == 0 {
			p.Out(one - 1)
		} else {
			p.Out(one + 12*(n-1)) // the others have all fields in the table
		}
		for i := range n {
			p.gets(p.headers(2*i+1, answer("200"), true))
			p.tells(eventText(api.Event{Kind: api.EvHead, Stream: 2*i + 1, Fields: answer("200"), End: true}))
		}
		p.has(3-n, 0, 0)
		p.gets(p.headers(2*n+1, answer("200"), true))
		p.tells("broken code 1")
	}
}

// Octets of other control frames and of data are not held to be the block's.
func TestRequestsBehindOthers(t *testing.T) {
	p := client(t)
	p.opens(1, false)
	p.is(p.Data(1, []byte(strings.Repeat("x", 1000)), false), api.OK)
	p.Out(all)
	p.gets(api.Frame{Kind: api.Ping, Payload: []byte("12345678")}, says())
	p.Request(request("POST"), true)
	p.is(p.Data(1, []byte("abc"), false), api.OK)
	p.gets(api.Frame{Kind: api.Ping, Payload: []byte("12345678")})
	p.Out(17 + 9 + 10)
	p.skip()
	p.gets(p.headers(3, answer("200"), true))
	p.breaksBehind(api.ProtocolError)
}

// breaksBehind asks that the end told just that it broke.
func (p *peer) breaksBehind(code api.Code) {
	p.t.Helper()
	p.tells(eventText(api.Event{Kind: api.EvBroken, Code: code}))
	if !p.Broken() {
		p.t.Error("not broken")
	}
}

// Calls know of a stream whose block has not gone out.
func TestCallsOfARequestOnItsWay(t *testing.T) {
	p := client(t)
	p.Request(request("POST"), false)
	p.has(1, 0, 0)
	p.is(p.Consumed(1, 0), api.OK)
	p.is(p.Consumed(1, 1), api.ErrArg)
	p.is(p.Data(1, []byte("abc"), false), api.OK)
	p.is(p.Respond(1, answer("200"), true), api.ErrState)
	p.is(p.Trail(1, list("a", "b")), api.OK)
	p.has(1, 3, 0)
	p.sends("HEADERS 1 "+fieldsText(request("POST")), `DATA 1 "abc"`, "HEADERS 1 [a=b] end")
	p.Request(request("POST"), false)
	p.is(p.Reset(3, 8), api.OK)
	p.has(1, 0, 0)
	p.sends("HEADERS 3 "+fieldsText(request("POST")), "RST 3 code 8")
	p.gets(p.headers(3, answer("200"), true))
	p.tells()
}

// Done.

func TestDone(t *testing.T) {
	p := server(t)
	if p.Done() {
		t.Error("done at first")
	}
	p.gets(api.Frame{Kind: api.Goaway})
	if p.Done() {
		t.Error("done, and left alone")
	}
	p.Shutdown()
	for range 17 {
		if p.Done() || p.Broken() {
			t.Error("done, and a GOAWAY waits")
		}
		p.Out(1)
	}
	if !p.Done() || p.Broken() {
		t.Error("not done")
	}
	p.gets(api.Frame{Kind: api.Ping, Payload: []byte("12345678")})
	if p.Done() {
		t.Error("done, and a PING waits")
	}
	p.read()
	if !p.Done() {
		t.Error("not done")
	}
}

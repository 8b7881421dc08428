package conn_test

import (
	"slices"
	"strings"
	"testing"

	"flume/api"
	"flume/hpack"
	"flume/settings"
)

// Request.

func TestRequest(t *testing.T) {
	p := client(t)
	id, e := p.Request(request("GET", "a", "b"), true)
	if id != 1 || e != api.OK {
		t.Errorf("%d, %v", id, e)
	}
	id, e = p.Request(list(":method", "CONNECT", ":authority", "a"), false)
	if id != 3 || e != api.OK {
		t.Errorf("%d, %v", id, e)
	}
	p.has(2, 0, 0)
	p.sends("HEADERS 1 [:method=GET :scheme=http :path=/ a=b] end", "HEADERS 3 [:method=CONNECT :authority=a]")
	p.is(p.Data(1, nil, false), api.ErrState)
	p.is(p.Trail(1, nil), api.ErrState)
	p.is(p.Data(3, nil, false), api.OK)
	secret := append(request("GET"), api.Field{Name: "a", Value: "b", Never: true})
	p.Request(secret, true)
	p.sends("HEADERS 5 [:method=GET :scheme=http :path=/ a=b never] end")
}

func (p *peer) requestIs(l []api.Field, want api.Errno) {
	p.t.Helper()
	for _, end := range []bool{false, true} {
		if id, e := p.Request(l, end); id != 0 || e != want {
			p.t.Errorf("Request: %d, %v; want %v", id, e, want)
		}
	}
}

func TestRequestsThatMayNotBe(t *testing.T) {
	p := server(t, setting(3, 0))
	p.requestIs(request("GET"), api.ErrState)
	p.requestIs(nil, api.ErrState)
	p = client(t, setting(3, 0))
	p.requestIs(nil, api.ErrArg)
	p.requestIs(answer("200"), api.ErrArg)
	p.requestIs(request("GET", "A", "b"), api.ErrArg)
	p.requestIs(request(""), api.ErrArg)
	p.requestIs(request("GET"), api.ErrFull)
	p.has(0, 0, 0)
	p.sends()
	// What was refused took no number.
	p.gets(says(setting(3, 1)))
	p.sends("SETTINGS ack")
	p.requestIs(nil, api.ErrArg)
	p.opens(1, false)
	p.requestIs(request("GET"), api.ErrFull)
	p.requestIs(nil, api.ErrArg)
	p.gets(api.Frame{Kind: api.Goaway, Last: 1})
	p.requestIs(request("GET"), api.ErrState)
	p.requestIs(nil, api.ErrState)
	p = client(t)
	p.Shutdown()
	p.requestIs(request("GET"), api.ErrState)
	p = client(t)
	p.feeds(noInc(0))
	p.requestIs(request("GET"), api.ErrState)
	p.requestIs(nil, api.ErrState)
}

// Respond.

func TestRespond(t *testing.T) {
	p := asked(t, 1, true)
	p.asks(3, false)
	p.asks(5, false)
	p.is(p.Respond(1, answer("200", "a", "b"), true), api.OK)
	p.is(p.Respond(3, answer("404"), true), api.OK)
	p.is(p.Respond(5, answer("200"), false), api.OK)
	p.has(2, 0, 0)
	p.sends("HEADERS 1 [:status=200 a=b] end", "HEADERS 3 [:status=404] end", "HEADERS 5 [:status=200]")
	p.is(p.Data(3, nil, false), api.ErrState)
	p.is(p.Trail(3, nil), api.ErrState)
	p.is(p.Data(5, []byte("abc"), false), api.OK)
	p.sends(`DATA 5 "abc"`)
}

func TestAnswersThatMayNotBe(t *testing.T) {
	p := asked(t, 1, false)
	p.is(p.Respond(0, answer("200"), true), api.ErrNone)
	p.is(p.Respond(-1, answer("200"), true), api.ErrNone)
	p.is(p.Respond(2, answer("200"), true), api.ErrNone)
	p.is(p.Respond(3, nil, true), api.ErrNone)
	for _, l := range [][]api.Field{nil, answer("100"), answer("199"), answer("x"), request("GET"), answer("200", "A", "b")} {
		p.is(p.Respond(1, l, false), api.ErrArg)
		p.is(p.Respond(1, l, true), api.ErrArg)
	}
	p.sends()
	p.is(p.Data(1, nil, true), api.ErrState)
	p.is(p.Respond(1, answer("200"), false), api.OK)
	p.is(p.Respond(1, answer("200"), true), api.ErrState)
	p.is(p.Respond(1, nil, true), api.ErrState)
	p.sends("HEADERS 1 [:status=200]")
	p.is(p.Trail(1, nil), api.OK)
	p.is(p.Respond(1, answer("200"), true), api.ErrState)
	p.is(p.Respond(1, answer("200"), false), api.ErrState)
	p.feeds(noInc(0))
	p.is(p.Respond(1, answer("200"), true), api.ErrState)
	p.is(p.Respond(3, answer("200"), true), api.ErrState)
	p = asking(t, false)
	p.is(p.Respond(1, answer("200"), true), api.ErrState)
	p.is(p.Respond(3, answer("200"), true), api.ErrNone)
	p.gets(p.headers(1, answer("200"), true))
	p.is(p.Respond(1, nil, true), api.ErrState)
}

// Data.

func TestData(t *testing.T) {
	p := asking(t, false)
	b := []byte("abc")
	p.is(p.Data(1, b, false), api.OK)
	p.has(1, 3, 0)
	p.is(p.Data(1, nil, false), api.OK)
	p.is(p.Data(1, []byte("de"), false), api.OK)
	p.has(1, 5, 0)
	copy(b, "xyz")
	p.sends(`DATA 1 "abcde"`)
	p.has(1, 0, 0)
	p.sends()
	p.is(p.Data(1, []byte("f"), true), api.OK)
	p.sends(`DATA 1 "f" end`)
	p.has(1, 0, 0)
	p.is(p.Data(1, nil, false), api.ErrState)
	p.opens(3, false)
	p.is(p.Data(3, nil, true), api.OK)
	p.sends("DATA 3 end")
	p.gets(p.headers(3, answer("200"), true), p.headers(1, answer("200"), true))
	p.has(0, 0, 0)
}

func TestDataThatMayNotBe(t *testing.T) {
	p := asked(t, 1, false)
	for _, id := range []int{-1, 0, 2, 3, most, 1 << 40} {
		p.is(p.Data(id, []byte("abc"), true), api.ErrNone)
	}
	p.is(p.Data(1, []byte("abc"), true), api.ErrState)
	p.answers(1, false)
	p.is(p.Data(1, []byte("abc"), true), api.OK)
	p.is(p.Data(1, []byte("abc"), false), api.ErrState)
	p.is(p.Data(1, nil, true), api.ErrState)
	p.has(1, 3, 0)
	p.sends(`DATA 1 "abc" end`)
	p.is(p.Data(1, nil, true), api.ErrState)
	p.feeds(noInc(0))
	p.is(p.Data(1, nil, true), api.ErrState)
	p.is(p.Data(3, nil, true), api.ErrState)
}

// Trail.

func TestTrailAtOnce(t *testing.T) {
	p := asking(t, false)
	l := list("a", "b")
	p.is(p.Trail(1, l), api.OK)
	p.sends("HEADERS 1 [a=b] end")
	p.has(1, 0, 0)
	p.gets(p.headers(1, answer("200"), true))
	p.has(0, 0, 0)
	// It ends a stream whose peer has ended.
	p = asked(t, 1, true)
	p.answers(1, false)
	p.is(p.Trail(1, nil), api.OK)
	p.has(0, 0, 0)
	p.sends("HEADERS 1 [] end")
}

func TestTrailBehindData(t *testing.T) {
	p := asked(t, 1, true)
	p.answers(1, false)
	p.is(p.Data(1, []byte("abc"), false), api.OK)
	l := list("a", "b")
	p.is(p.Trail(1, l), api.OK)
	l[0] = api.Field{Name: "x", Value: "y"}
	p.has(1, 3, 0)
	if b := p.Out(11); len(b) != 11 {
		t.Errorf("%x", b)
	}
	p.has(1, 1, 0)
	b := p.Out(10)
	p.has(0, 0, 0)
	p.sends("HEADERS 1 [a=b] end")
	if len(b) != 10 {
		t.Errorf("%x", b)
	}
	p.sends()
}

// All goes out at once, where there is room.
func TestTrailGoesOutWithTheData(t *testing.T) {
	p := asked(t, 1, true)
	p.asks(3, true)
	p.answers(1, false)
	p.answers(3, false)
	p.is(p.Data(1, []byte("abc"), false), api.OK)
	p.is(p.Data(3, []byte("def"), true), api.OK)
	p.is(p.Trail(1, list("a", "b")), api.OK)
	p.sends(`DATA 1 "abc"`, "HEADERS 1 [a=b] end", `DATA 3 "def" end`)
	p.has(0, 0, 0)
}

// It waits as long as the windows let data wait.
func TestTrailWaitsForWindows(t *testing.T) {
	p := client(t, setting(4, 2))
	p.opens(1, false)
	p.is(p.Data(1, []byte("abc"), false), api.OK)
	p.is(p.Trail(1, list("a", "b")), api.OK)
	p.sends(`DATA 1 "ab"`)
	p.has(1, 1, 0)
	p.gets(update(1, 1))
	p.sends(`DATA 1 "c"`, "HEADERS 1 [a=b] end")
	p.gets(update(1, most), update(1, most))
	p.tells()
}

// The blocks go out in the order in which they were written.
func TestTrailIsWrittenWhenItIsSent(t *testing.T) {
	p := asked(t, 1, true)
	p.asks(3, true)
	p.answers(1, false)
	p.is(p.Data(1, []byte("abc"), false), api.OK)
	p.is(p.Trail(1, list("new", "field")), api.OK)
	p.is(p.Respond(3, answer("200", "new", "field", "more", "one"), true), api.OK)
	p.sends("HEADERS 3 [:status=200 new=field more=one] end", `DATA 1 "abc"`, "HEADERS 1 [new=field] end")
}

func TestTrailThatMayNotBe(t *testing.T) {
	p := asked(t, 1, false)
	p.is(p.Trail(3, nil), api.ErrNone)
	p.is(p.Trail(0, nil), api.ErrNone)
	p.is(p.Trail(1, nil), api.ErrState)
	p.answers(1, false)
	for _, l := range [][]api.Field{answer("200"), request("GET"), list("A", "b"), list("te", "x"), list("", "")} {
		p.is(p.Trail(1, l), api.ErrArg)
	}
	p.sends()
	p.is(p.Data(1, []byte("abc"), false), api.OK)
	p.is(p.Trail(1, nil), api.OK)
	p.is(p.Trail(1, nil), api.ErrState)
	p.is(p.Trail(1, answer("200")), api.ErrState)
	p.is(p.Data(1, nil, false), api.ErrState)
	p.sends(`DATA 1 "abc"`, "HEADERS 1 [] end")
	p.is(p.Trail(1, nil), api.ErrState)
	p.has(1, 0, 0)
	p.feeds(noInc(0))
	p.is(p.Trail(1, nil), api.ErrState)
	p.is(p.Trail(3, nil), api.ErrState)
	p = asking(t, false)
	p.is(p.Data(1, nil, true), api.OK)
	p.is(p.Trail(1, nil), api.ErrState)
	p.sends("DATA 1 end")
}

// A stream that is dropped takes its trailers with it.
func TestTrailOfOneThatIsReset(t *testing.T) {
	p := asking(t, false)
	p.is(p.Data(1, []byte("abc"), false), api.OK)
	p.is(p.Trail(1, nil), api.OK)
	p.is(p.Reset(1, 8), api.OK)
	p.sends("RST 1 code 8")
	p.has(0, 0, 0)
}

// Reset.

func TestResetOfOurs(t *testing.T) {
	p := asked(t, 1, false)
	p.asks(3, true)
	p.gets(data(1, "abc", false))
	p.tells(`data 1 "abc"`)
	for _, id := range []int{0, -1, 2, 5, 1 << 40} {
		p.is(p.Reset(id, api.Cancel), api.ErrNone)
	}
	p.is(p.Reset(1, 1<<32-1), api.OK)
	p.is(p.Reset(1, api.Cancel), api.ErrNone)
	p.feeds(nil)
	p.tells()
	p.sends("RST 1 code 4294967295")
	p.has(1, 0, 0)
	p.is(p.Reset(3, api.NoError), api.OK)
	p.sends("RST 3")
	p.has(0, 0, 0)
	p.feeds(noInc(0))
	p.is(p.Reset(1, 0), api.ErrState)
	p = asking(t, true)
	p.is(p.Reset(1, api.Cancel), api.OK)
	p.gets(p.headers(1, answer("200"), true))
	p.tells()
	p.sends("RST 1 code 8")
}

func TestResetOfOursFrees(t *testing.T) {
	p := asked(t, 1, false)
	p.gets(octets(1, 16384), octets(1, 16384))
	p.is(p.Reset(1, 3), api.OK)
	p.sends("RST 1 code 3", "UPDATE inc 32768")
	p.has(0, 0, 0)
}

func TestResetOfOursThatIsClosed(t *testing.T) {
	p := asked(t, 1, false)
	p.gets(data(1, "abc", true))
	p.answers(1, true)
	p.is(p.Reset(1, 0), api.ErrNone)
	p.sends()
	p.has(1, 0, 3)
}

func TestResetOfOursMakesRoom(t *testing.T) {
	p := client(t, setting(3, 1))
	p.opens(1, false)
	p.requestIs(request("GET"), api.ErrFull)
	p.is(p.Reset(1, 0), api.OK)
	p.sends("RST 1")
	p.opens(3, false)
}

// Shutdown.

func TestShutdown(t *testing.T) {
	p := asked(t, 1, true)
	p.asks(5, false)
	p.Shutdown()
	p.Shutdown()
	p.sends("GOAWAY last 5")
	p.has(2, 0, 0)
	if p.Broken() || p.Done() {
		t.Error("broken or done")
	}
	p.gets(p.headers(7, request("GET"), true))
	p.Shutdown()
	p.sends("RST 7 code 7")
	p.answers(1, true)
	p.is(p.Respond(5, answer("200"), true), api.OK)
	p.gets(data(5, "abc", true))
	p.tells(`data 5 "abc" end`)
	p.sends("HEADERS 5 [:status=200] end")
	if p.Done() {
		t.Error("done, and a stream is held")
	}
	p.is(p.Consumed(5, 3), api.OK)
	if !p.Done() {
		t.Error("not done")
	}
}

func TestShutdownOfAClient(t *testing.T) {
	p := asking(t, false)
	p.Shutdown()
	if p.Done() {
		t.Error("done, and a stream is there")
	}
	p.sends("GOAWAY")
	p.is(p.Data(1, nil, true), api.OK)
	p.gets(p.headers(1, answer("200"), true))
	p.has(1, 0, 0)
	p.sends("DATA 1 end")
	if !p.Done() {
		t.Error("not done")
	}
}

func TestShutdownOfABrokenOne(t *testing.T) {
	p := server(t)
	p.feeds(noInc(0))
	p.Shutdown()
	p.breaks(api.ProtocolError, 0)
}

// The last stream of one that is shut stays, though others were refused.
func TestLastOfABreak(t *testing.T) {
	p := asked(t, 3, true)
	p.gets(p.headers(5, nil, true))
	p.skip()
	p.sends("RST 5 code 1")
	p.Shutdown()
	p.gets(p.headers(9, request("GET"), true))
	p.sends("GOAWAY last 5", "RST 9 code 7")
	p.Shutdown()
	p.sends()
	p.feeds(noInc(0))
	p.breaks(api.ProtocolError, 5)
	p = server(t)
	p.Shutdown()
	p.gets(p.headers(9, request("GET"), true))
	p.sends("GOAWAY", "RST 9 code 7")
	p.feeds(noInc(0))
	p.breaks(api.ProtocolError, 0)
}

// Blocks that go out.

// framesOf is frames as they are, not put together.
func framesOf(t *testing.T, b []byte) []string {
	t.Helper()
	var l []string
	for len(b) > 0 {
		n := int(b[0])<<16 + int(b[1])<<8 + int(b[2])
		l = append(l, string(b[:9]))
		b = b[9+n:]
	}
	return l
}

// requestOf is a request whose block has so many octets.
func requestOf(size int) []api.Field {
	for n := size - 9; ; n-- {
		l := request("GET", "a", strings.Repeat("~", n))
		if len(hpack.NewEncoder(4096).Encode(l)) == size {
			return l
		}
	}
}

func TestBlocksAreCut(t *testing.T) {
	for _, x := range []struct {
		settings []api.Setting
		frame    int
	}{{nil, 16384}, {[]api.Setting{setting(5, 16385)}, 16385}, {[]api.Setting{setting(5, 20000)}, 20000}} {
		for _, size := range []int{x.frame - 1, x.frame, x.frame + 1, 2 * x.frame, 2*x.frame + 1} {
			for _, end := range []bool{false, true} {
				p := client(t, x.settings...)
				p.Request(requestOf(size), end)
				b := p.Out(all)
				heads := framesOf(t, b)
				left := size
				for i, got := range heads {
					n := min(left, x.frame)
					left -= n
					kind, flags := byte(api.Continuation), byte(0)
					if i == 0 {
						kind = api.Headers
					}
					if i == 0 && end {
						flags |= 1
					}
					if left == 0 {
						flags |= 4
					}
					if want := string(raw(kind, flags, 1, strings.Repeat("x", n))[:9]); got != want {
						t.Errorf("size %d of %d, frame %d: %x; want %x", size, x.frame, i, got, want)
					}
				}
				if left != 0 || len(heads) != (size+x.frame-1)/x.frame {
					t.Errorf("size %d of %d: %d frames, %d octets left", size, x.frame, len(heads), left)
				}
			}
		}
	}
}

// A block is one control frame, so that nothing goes in between.
func TestBlocksAreOneControl(t *testing.T) {
	p := server(t)
	p.asks(1, true)
	p.is(p.Respond(1, answer("200", "a", strings.Repeat("~", 50000)), true), api.OK)
	p.gets(api.Frame{Kind: api.Ping, Payload: []byte("12345678")})
	out := p.Out(20)
	p.gets(api.Frame{Kind: api.Ping, Payload: []byte("abcdefgh")})
	out = append(out, p.Out(all)...)
	var kinds []byte
	for _, head := range framesOf(t, out) {
		kinds = append(kinds, head[3])
	}
	if !slices.Equal(kinds, []byte{1, 9, 9, 9, 6, 6}) {
		t.Errorf("%v", kinds)
	}
}

// ErrState of all that is broken.
func TestCallsOfABrokenOne(t *testing.T) {
	for _, own := range []api.Values{settings.Default(), {}} {
		p := serverOf(t, own)
		p.feeds(noInc(0))
		p.isBroken(api.ProtocolError, 0)
		p.requestIs(nil, api.ErrState)
		p.is(p.Respond(0, nil, false), api.ErrState)
		p.is(p.Data(0, nil, false), api.ErrState)
		p.is(p.Trail(0, nil), api.ErrState)
		p.is(p.Reset(0, 0), api.ErrState)
		p.is(p.Consumed(0, -1), api.ErrState)
		p.Shutdown()
		p.sends()
	}
}

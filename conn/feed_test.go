package conn_test

import (
	"slices"
	"strings"
	"testing"

	"flume/api"
	"flume/settings"
)

// The opening.

func TestServerIsOpenedByThePreface(t *testing.T) {
	for n := range len(api.Preface) + 1 {
		p := newPeer(t, true, settings.Default())
		p.feeds(nil)
		for i := range n {
			p.feeds([]byte(api.Preface[i : i+1]))
		}
		p.tells()
		p.feeds(append([]byte(api.Preface[n:]), raw(api.Settings, 0, 0, "")...))
		p.tells("settings")
		p.sends("SETTINGS", "SETTINGS ack")
	}
}

func TestServerIsNotOpenedByAnythingElse(t *testing.T) {
	for n := range len(api.Preface) {
		for _, more := range []string{"", "x", api.Preface} {
			wrong := api.Preface[:n] + string(api.Preface[n]^1)
			p := newPeer(t, true, settings.Default())
			p.feeds([]byte(wrong + more))
			p.tells("broken code 1")
			p.feeds([]byte(api.Preface))
			p.tells()
			p.sends("SETTINGS", "GOAWAY code 1")
			// It is told with the first wrong octet, not ahead of it.
			p = newPeer(t, true, settings.Default())
			p.feeds([]byte(wrong[:n]))
			p.tells()
			p.feeds([]byte(wrong[n:]))
			p.tells("broken code 1")
		}
	}
}

func TestClientWaitsForNoPreface(t *testing.T) {
	p := newPeer(t, false, settings.Default())
	p.gets(says())
	p.tells("settings")
	p = newPeer(t, false, settings.Default())
	p.feeds([]byte(api.Preface))
	p.tells("broken code 6") // its first octets say a length
}

func TestFirstFrameMustBeSettings(t *testing.T) {
	for _, f := range []api.Frame{
		{Kind: api.Settings, Ack: true},
		{Kind: api.Ping, Payload: []byte("12345678")},
		{Kind: api.Goaway},
		update(0, 1),
		update(1, 1),
		{Kind: api.Priority, Stream: 1, Weight: 1},
		{Kind: 99},
		{Kind: api.Headers, Stream: 1},
		{Kind: api.Headers, Stream: 1, EndHeaders: true, Payload: []byte("\x82")},
		{Kind: api.Continuation, Stream: 1},
		{Kind: api.PushPromise, Stream: 1, Last: 2},
		rst(1, 0),
		data(1, "", false),
	} {
		for _, server := range []bool{false, true} {
			p := newPeer(t, server, settings.Default())
			if server {
				p.feeds([]byte(api.Preface))
			} else {
				p.Out(len(api.Preface))
			}
			p.read()
			p.gets(f)
			p.breaks(api.ProtocolError, 0)
		}
	}
}

func TestFaultsAheadOfSettings(t *testing.T) {
	for _, x := range []struct {
		octets []byte
		code   api.Code
	}{
		{raw(api.Settings, 0, 0, "12345"), api.FrameSizeError},
		{raw(api.Ping, 0, 1, "12345678"), api.ProtocolError},
		{raw(api.Priority, 0, 1, "1234"), api.ProtocolError},
		{noInc(0), api.ProtocolError},
		{noInc(1), api.ProtocolError},
	} {
		p := newPeer(t, true, settings.Default())
		p.feeds([]byte(api.Preface))
		p.read()
		p.feeds(x.octets)
		p.breaks(x.code, 0)
	}
}

// Faults of the connection.

func TestFaultsOfTheConnection(t *testing.T) {
	for _, x := range []struct {
		octets []byte
		code   api.Code
	}{
		{raw(api.Ping, 0, 0, "1234567"), api.FrameSizeError},
		{raw(api.Settings, 0, 0, "1"), api.FrameSizeError},
		{raw(api.Settings, 1, 0, "123456"), api.FrameSizeError},
		{raw(77, 0, 0, strings.Repeat("x", 16385)), api.FrameSizeError},
		{raw(api.Data, 0, 0, ""), api.ProtocolError},
		{raw(api.Data, 8, 1, "\x05abcd"), api.ProtocolError},
		{noInc(0), api.ProtocolError},
		{raw(api.PushPromise, 4, 1, "\x00\x00\x00\x00"), api.ProtocolError},
	} {
		p := server(t)
		p.asks(1, false)
		p.feeds(x.octets)
		p.breaks(x.code, 1)
	}
}

func TestNothingIsToldOfABrokenOne(t *testing.T) {
	p := asked(t, 1, false)
	p.feeds(append(noInc(0), octetsOf(t, data(1, "abc", true), says(), update(0, most))...))
	p.breaks(api.ProtocolError, 1)
	p.gets(data(1, "abc", true), says(), p.headers(3, request("GET"), true), api.Frame{Kind: api.Ping, Payload: []byte("12345678")})
	p.feeds(noInc(0))
	p.feeds(nil)
	p.tells()
	p.sends()
	p.has(0, 0, 0)
}

func TestFaultsBehindABreakAreNotTold(t *testing.T) {
	p := server(t)
	p.feeds(slices.Concat(noInc(5), noInc(0), noInc(7)))
	p.breaks(api.ProtocolError, 0)
}

// Faults of a stream.

func TestFaultsOfAStream(t *testing.T) {
	for _, x := range []struct {
		octets []byte
		code   api.Code
	}{{noInc(1), api.ProtocolError}, {raw(api.Priority, 0, 1, "1234"), api.FrameSizeError}, {raw(api.Priority, 0, 1, ""), api.FrameSizeError}} {
		for _, end := range []bool{false, true} {
			p := asked(t, 1, end)
			p.asks(3, false)
			p.feeds(x.octets)
			p.resets(1, x.code)
			p.has(1, 0, 0)
			// It is no more, and its number is not new: nothing more.
			p.feeds(x.octets)
			p.tells()
			p.sends()
			p.is(p.Respond(1, answer("200"), true), api.ErrNone)
			p.is(p.Respond(3, answer("200"), true), api.OK)
		}
	}
}

func TestFaultsOfANewNumber(t *testing.T) {
	for _, x := range []struct {
		octets []byte
		code   api.Code
	}{{noInc(3), api.ProtocolError}, {noInc(2), api.ProtocolError}, {raw(api.Priority, 0, 5, "1"), api.FrameSizeError}} {
		p := asked(t, 1, false)
		p.feeds(x.octets)
		p.breaks(x.code, 1)
	}
	p := asking(t, false)
	p.feeds(raw(api.Priority, 0, 3, "1"))
	p.breaks(api.FrameSizeError, 0)
}

func TestFaultsOfAStreamThatIsClosed(t *testing.T) {
	// Something of it is held, so it is still there; nothing is done.
	p := asked(t, 1, false)
	p.gets(data(1, "abc", true))
	p.tells(`data 1 "abc" end`)
	p.answers(1, true)
	p.has(1, 0, 3)
	p.feeds(noInc(1))
	p.tells()
	p.sends()
	p.has(1, 0, 3)
	p.is(p.Consumed(1, 3), api.OK)
	p.has(0, 0, 0)
	p.feeds(noInc(1))
	p.tells()
	p.sends()
}

func TestFaultsOfAStreamWithinABlock(t *testing.T) {
	for _, id := range []int{1, 3, 5} {
		p := asked(t, 1, false)
		p.gets(p.block(3, request("GET"), true, 2)[0])
		p.feeds(noInc(id))
		p.breaks(api.ProtocolError, 1)
	}
}

// Blocks.

func TestBlocksInPieces(t *testing.T) {
	for piece := 1; piece < 20; piece++ {
		p := server(t)
		l := request("PUT", "aaa", "bbb", "ccc", "ddd")
		if piece == 1 {
			l = request("GET")
		}
		f := p.block(1, l, true, piece)
		p.gets(f[:len(f)-1]...)
		if len(f) > 1 {
			p.tells()
			p.has(0, 0, 0)
		}
		p.gets(f[len(f)-1])
		p.tells("head 1 " + fieldsText(l) + " end")
		p.has(1, 0, 0)
	}
}

func TestOthersWithinABlock(t *testing.T) {
	for _, f := range []api.Frame{
		says(), {Kind: api.Ping, Payload: []byte("12345678")}, data(1, "", false), update(0, 1), {Kind: 99},
		{Kind: api.Continuation, Stream: 1, EndHeaders: true}, {Kind: api.Headers, Stream: 3},
	} {
		p := asked(t, 1, false)
		p.gets(api.Frame{Kind: api.Headers, Stream: 3, Payload: []byte("\x82")}, f)
		p.breaks(api.ProtocolError, 1)
	}
	p := asked(t, 1, false)
	p.gets(api.Frame{Kind: api.Continuation, Stream: 1, EndHeaders: true})
	p.breaks(api.ProtocolError, 1)
}

func TestBlocksThatAreTooLong(t *testing.T) {
	for _, n := range []int{65536, 65537} {
		p := server(t)
		block := strings.Repeat("\x90", n) // accept-encoding
		f := api.Frame{Kind: api.Headers, Stream: 1, End: true}
		for len(block) > 16384 {
			f.Payload = []byte(block[:16384])
			p.gets(f)
			f = api.Frame{Kind: api.Continuation, Stream: 1}
			block = block[16384:]
		}
		f.Payload, f.EndHeaders = []byte(block), true
		p.gets(f)
		if n == 65536 {
			p.resets(1, api.EnhanceYourCalm) // its fields are far more than the list
		} else {
			p.breaks(api.EnhanceYourCalm, 0)
		}
	}
	for _, n := range []int{32, 33} {
		p := server(t)
		p.gets(api.Frame{Kind: api.Headers, Stream: 1, End: true, Payload: []byte("\x82\x84\x86")})
		for range n - 1 {
			p.gets(api.Frame{Kind: api.Continuation, Stream: 1})
		}
		p.gets(api.Frame{Kind: api.Continuation, Stream: 1, EndHeaders: true})
		if n == 32 {
			p.tells("head 1 [:method=GET :path=/ :scheme=http] end")
		} else {
			p.breaks(api.EnhanceYourCalm, 0)
		}
	}
}

// Other frames.

func TestSettingsAreAnswered(t *testing.T) {
	p := server(t)
	p.gets(says(), says(setting(99, 1)), api.Frame{Kind: api.Settings, Ack: true})
	p.tells("settings", "settings")
	p.sends("SETTINGS ack", "SETTINGS ack")
}

func TestSettingsThatMayNotBe(t *testing.T) {
	for _, x := range []struct {
		server bool // this end
		s      api.Setting
		code   api.Code
	}{
		{true, setting(2, 2), api.ProtocolError}, {true, setting(2, 1), api.NoError}, {true, setting(2, 0), api.NoError},
		{false, setting(2, 1), api.ProtocolError}, {false, setting(2, 0), api.NoError},
		{true, setting(4, most), api.NoError}, {true, setting(4, most+1), api.FlowControlError},
		{true, setting(5, 16383), api.ProtocolError}, {true, setting(5, 16384), api.NoError},
		{true, setting(5, 1<<24-1), api.NoError}, {true, setting(5, 1<<24), api.ProtocolError},
	} {
		p := client(t)
		if x.server {
			p = server(t)
		}
		p.gets(says(setting(1, 100), x.s))
		if x.code == api.NoError {
			p.tells("settings")
			p.sends("SETTINGS ack")
		} else {
			p.breaks(x.code, 0)
		}
	}
}

// Streams that wait have windows that are less or more by the difference.
func TestSettingsChangeWindows(t *testing.T) {
	p := client(t, setting(4, 10))
	p.opens(1, false)
	p.is(p.Data(1, []byte("0123456789abcdef"), false), api.OK)
	p.sends(`DATA 1 "0123456789"`)
	p.gets(says(setting(4, 12)))
	p.tells("settings")
	p.sends("SETTINGS ack", `DATA 1 "ab"`)
	p.gets(says(setting(4, 0)))
	p.gets(says(setting(4, 12)))
	p.gets(says(setting(4, 11)))
	p.gets(update(1, 1))
	p.tells("settings", "settings", "settings")
	p.sends("SETTINGS ack", "SETTINGS ack", "SETTINGS ack")
	p.gets(update(1, 1))
	p.sends(`DATA 1 "c"`)
	// New streams have the new one.
	p.opens(3, false)
	p.is(p.Data(3, []byte("0123456789abcdef"), true), api.OK)
	p.sends(`DATA 3 "0123456789a"`)
}

func TestSettingsChangeTheWindowsOfAServer(t *testing.T) {
	p := server(t, setting(4, 3))
	p.asks(1, true)
	p.answers(1, false)
	p.is(p.Data(1, []byte("0123456789"), true), api.OK)
	p.sends(`DATA 1 "012"`)
	p.gets(says(setting(4, 5)))
	p.tells("settings")
	p.sends("SETTINGS ack", `DATA 1 "34"`)
	p.asks(3, true)
	p.answers(3, false)
	p.is(p.Data(3, []byte("0123456789"), true), api.OK)
	p.sends(`DATA 3 "01234"`)
}

// A request that is still on its way out has the window that counts when it
// comes.
func TestSettingsChangeTheWindowOfARequestOnItsWay(t *testing.T) {
	for _, x := range []struct {
		window uint32
		want   []string
	}{
		{2, []string{`DATA 1 "ab"`}}, {100, []string{`DATA 1 "abc" end`}},
	} {
		p := client(t, setting(4, 3))
		p.Request(request("POST"), false)
		p.is(p.Data(1, []byte("abc"), true), api.OK)
		p.gets(says(setting(4, x.window)))
		p.tells("settings")
		p.sends(append([]string{"HEADERS 1 " + fieldsText(request("POST")), "SETTINGS ack"}, x.want...)...)
	}
}

func TestSettingsThatMakeAWindowTooGreat(t *testing.T) {
	for _, more := range []int{0, 1} {
		p := client(t, setting(4, 10))
		p.opens(1, false)
		p.opens(3, false)
		p.opens(5, true)
		p.gets(update(3, 90+more), says(setting(4, most-90)))
		if more == 0 {
			p.tells("settings")
		} else {
			p.breaks(api.FlowControlError, 0)
		}
	}
	// Nor may it become too small: no window is less than that.
	p := client(t, setting(4, most))
	p.opens(1, false)
	p.is(p.Data(1, []byte("abc"), false), api.OK)
	p.sends(`DATA 1 "abc"`)
	p.gets(says(setting(4, 0)))
	p.tells("settings")
}

func TestSettingsOfFrames(t *testing.T) {
	p := client(t)
	p.opens(1, false)
	p.is(p.Data(1, []byte(strings.Repeat("x", 40000)), false), api.OK)
	p.sends("DATA 1 16384 octets", "DATA 1 16384 octets", "DATA 1 7232 octets")
	p.gets(says(setting(5, 16385)), update(0, most-65535), update(1, most-65535))
	p.is(p.Data(1, []byte(strings.Repeat("x", 20000)), false), api.OK)
	p.sends("SETTINGS ack", "DATA 1 16385 octets", "DATA 1 3615 octets")
}

// The encoder's table is no larger than the peer lets it be, nor than 4096;
// that is told once, with the next block.
func TestSettingsOfTables(t *testing.T) {
	for _, x := range []struct {
		first  []api.Setting
		tables []uint32
		want   string
	}{
		{nil, nil, ""},
		{nil, []uint32{4096}, ""},
		{nil, []uint32{4097, 100000, 1<<32 - 1}, ""},
		{nil, []uint32{100}, "\x3f\x45"},
		{nil, []uint32{0}, "\x20"},
		{nil, []uint32{100, 100}, "\x3f\x45"},
		{nil, []uint32{100, 4096}, "\x3f\x45\x3f\xe1\x1f"},
		{nil, []uint32{100, 8000}, "\x3f\x45\x3f\xe1\x1f"},
		{nil, []uint32{8000, 100, 50, 90}, "\x3f\x13\x3f\x3b"},
		{[]api.Setting{setting(1, 100), setting(1, 4096)}, nil, ""},
		{[]api.Setting{setting(1, 4096), setting(1, 100)}, nil, "\x3f\x45"},
	} {
		p := client(t, x.first...)
		for _, n := range x.tables {
			p.gets(says(setting(1, n)))
		}
		p.read()
		p.Request(list(":method", "GET", ":scheme", "http", ":path", "/"), true)
		b := p.Out(all)
		want := x.want + "\x82\x86\x84"
		if string(b[9:]) != want {
			t.Errorf("%v, %v: %x; want %x", x.first, x.tables, b[9:], want)
		}
		p.Request(list(":method", "GET", ":scheme", "http", ":path", "/"), true)
		if b := p.Out(all); string(b[9:]) != "\x82\x86\x84" {
			t.Errorf("%v, %v: then %x", x.first, x.tables, b[9:])
		}
	}
}

func TestSettingsOfStreams(t *testing.T) {
	p := client(t, setting(3, 2))
	p.opens(1, false)
	p.opens(3, true)
	_, e := p.Request(request("GET"), true)
	p.is(e, api.ErrFull)
	p.gets(says(setting(3, 3)))
	p.read()
	p.opens(5, true)
	_, e = p.Request(request("GET"), true)
	p.is(e, api.ErrFull)
	// Streams that are there live on.
	p.gets(says(setting(3, 0)))
	p.read()
	p.has(3, 0, 0)
	_, e = p.Request(request("GET"), true)
	p.is(e, api.ErrFull)
	p.gets(says(setting(3, 1<<32-1)))
	p.read()
	p.opens(7, true)
}

func TestPush(t *testing.T) {
	for _, id := range []int{1, 2, 3} {
		p := asking(t, false)
		p.gets(api.Frame{Kind: api.PushPromise, Stream: id, Last: 2, EndHeaders: true})
		p.breaks(api.ProtocolError, 0)
		p = asked(t, 1, false)
		p.gets(api.Frame{Kind: api.PushPromise, Stream: id, Last: 2})
		p.breaks(api.ProtocolError, 1)
	}
}

func TestPing(t *testing.T) {
	p := server(t)
	p.gets(
		api.Frame{Kind: api.Ping, Payload: []byte("12345678")},
		api.Frame{Kind: api.Ping, Ack: true, Payload: []byte("abcdefgh")},
		api.Frame{Kind: api.Ping, Payload: []byte("\x00\x00\x00\x00\x00\x00\x00\xff")},
	)
	p.tells()
	p.sends(`PING "12345678" ack`, `PING "\x00\x00\x00\x00\x00\x00\x00\xff" ack`)
}

func TestGoaway(t *testing.T) {
	p := client(t)
	p.opens(1, false)
	p.opens(3, true)
	p.gets(api.Frame{Kind: api.Goaway, Last: 1, Code: api.NoError, Payload: []byte("bye")})
	p.tells("goaway last 1")
	p.sends()
	_, e := p.Request(request("GET"), true)
	p.is(e, api.ErrState)
	// Streams that are there live on, above Last too.
	p.has(2, 0, 0)
	p.is(p.Data(1, []byte("abc"), true), api.OK)
	p.sends(`DATA 1 "abc" end`)
	p.gets(p.headers(3, answer("200"), true))
	p.tells("head 3 [:status=200] end")
	p.gets(api.Frame{Kind: api.Goaway, Code: api.EnhanceYourCalm}, api.Frame{Kind: api.Goaway, Last: most, Code: 1<<32 - 1})
	p.tells("goaway code 11", "goaway code 4294967295 last 2147483647")
	if p.Broken() || p.Done() {
		t.Error("broken or done")
	}
}

// A server that a GOAWAY came to still takes what is asked.
func TestGoawayToAServer(t *testing.T) {
	p := server(t)
	p.gets(api.Frame{Kind: api.Goaway, Last: 0})
	p.tells("goaway")
	p.asks(1, true)
	p.answers(1, true)
}

func TestOthersAreNothing(t *testing.T) {
	p := asked(t, 1, false)
	p.gets(
		api.Frame{Kind: api.Priority, Stream: 1, Depend: 1, Weight: 256, Exclusive: true},
		api.Frame{Kind: api.Priority, Stream: 3, Weight: 1},
		api.Frame{Kind: api.Priority, Stream: 2, Weight: 1},
		api.Frame{Kind: 10, Stream: 9, Flags: 255, Payload: []byte("abc")},
		api.Frame{Kind: 255},
	)
	p.tells()
	p.sends()
	p.has(1, 0, 0)
	p.asks(3, true) // still new
}

func TestWindowUpdateOfTheConnection(t *testing.T) {
	p := client(t, setting(4, 100000))
	p.opens(1, false)
	p.is(p.Data(1, []byte(strings.Repeat("x", 65540)), false), api.OK)
	p.sends("DATA 1 16384 octets", "DATA 1 16384 octets", "DATA 1 16384 octets", "DATA 1 16383 octets")
	p.gets(update(0, 3))
	p.tells()
	p.sends(`DATA 1 "xxx"`)
	p.gets(update(0, most))
	p.tells()
	p.sends(`DATA 1 "xx"`)
	p.gets(update(0, 2))
	p.tells()
	p.gets(update(0, 1))
	p.breaks(api.FlowControlError, 0)
}

func TestWindowUpdateOfAStream(t *testing.T) {
	p := client(t, setting(4, 0))
	p.opens(1, false)
	p.opens(3, false)
	p.is(p.Data(1, []byte("abc"), false), api.OK)
	p.is(p.Data(3, []byte("def"), false), api.OK)
	p.sends()
	p.gets(update(3, 2))
	p.sends(`DATA 3 "de"`)
	p.gets(update(1, most))
	p.sends(`DATA 1 "abc"`)
	p.gets(update(1, 3))
	p.tells()
	p.gets(update(1, 1))
	p.resets(1, api.FlowControlError)
	p.has(1, 1, 0)
	p.gets(update(1, 1))
	p.tells()
	p.gets(update(3, 1))
	p.sends(`DATA 3 "f"`)
}

// A stream that has nothing more to send has no window that could be too
// great.
func TestWindowUpdateOfAStreamThatHasEnded(t *testing.T) {
	p := client(t)
	p.opens(1, true)
	p.gets(update(1, most), update(1, most))
	p.tells()
	p = asked(t, 1, false)
	p.answers(1, true)
	p.gets(update(1, most), update(1, most))
	p.tells()
	p.gets(data(1, "abc", true))
	p.tells(`data 1 "abc" end`)
	p.gets(update(1, most), update(1, most))
	p.tells()
	p.has(1, 0, 3)
}

func TestWindowUpdateOfNoStream(t *testing.T) {
	p := asked(t, 3, true)
	p.answers(3, true)
	p.gets(update(3, 1), update(1, most))
	p.tells()
	p.sends()
	p.gets(update(5, 1))
	p.breaks(api.ProtocolError, 3)
	p = asked(t, 3, true)
	p.gets(update(2, 1))
	p.breaks(api.ProtocolError, 3)
	p = asking(t, true)
	p.gets(update(3, 1))
	p.breaks(api.ProtocolError, 0)
	p = asking(t, true)
	p.gets(update(2, 1))
	p.breaks(api.ProtocolError, 0)
}

func TestReset(t *testing.T) {
	p := asked(t, 1, false)
	p.asks(3, false)
	p.gets(data(1, "abc", false), data(3, "de", false))
	p.tells(`data 1 "abc"`, `data 3 "de"`)
	p.has(2, 0, 5)
	p.gets(rst(1, 77))
	p.tells("reset 1 code 77")
	p.sends()
	p.has(1, 0, 2)
	p.is(p.Consumed(1, 3), api.ErrNone)
	// Another one is nothing.
	p.gets(rst(1, 77))
	p.tells()
	p.gets(rst(3, 0))
	p.tells("reset 3")
	p.has(0, 0, 0)
}

// What waits on a stream that is reset does not go out.
func TestResetOfOneThatWaits(t *testing.T) {
	p := asking(t, false)
	p.is(p.Data(1, []byte("abc"), true), api.OK)
	p.gets(rst(1, api.Cancel))
	p.tells("reset 1 code 8")
	p.has(0, 0, 0)
	p.sends()
}

// Half of the window is freed with it, and granted.
func TestResetFrees(t *testing.T) {
	for _, n := range []int{32767, 32768} {
		p := asked(t, 1, false)
		p.gets(octets(1, 16384), octets(1, n-16384))
		p.tells("data 1 16384 octets", "data 1 "+octetsText(make([]byte, n-16384)))
		p.gets(rst(1, 0))
		p.tells("reset 1")
		if n == 32767 {
			p.sends()
		} else {
			p.sends("UPDATE inc 32768")
		}
	}
}

func TestResetOfNoStream(t *testing.T) {
	for _, id := range []int{2, 5, 7} {
		p := asked(t, 3, true)
		p.gets(rst(id, 0))
		p.breaks(api.ProtocolError, 3)
	}
	p := asked(t, 3, true)
	p.gets(rst(1, 0))
	p.tells()
	p.answers(3, true)
	p.gets(rst(3, 0))
	p.tells()
}

// One that is closed, and still there, is not reset by the peer any more.
func TestResetOfOneThatIsClosed(t *testing.T) {
	p := asked(t, 1, false)
	p.gets(data(1, "abc", true))
	p.answers(1, true)
	p.gets(rst(1, 5))
	p.tells(`data 1 "abc" end`)
	p.has(1, 0, 3)
}

// A reset makes room for another stream.
func TestResetMakesRoom(t *testing.T) {
	own := settings.Default()
	own.Streams = 1
	p := serverOf(t, own)
	p.asks(1, false)
	p.gets(rst(1, 0))
	p.tells("reset 1")
	p.asks(3, false)
	q := client(t, setting(3, 1))
	q.opens(1, false)
	q.gets(rst(1, 0))
	q.tells("reset 1")
	q.opens(3, false)
}

// Too many control frames wait.

func TestTooMuchControl(t *testing.T) {
	ping := api.Frame{Kind: api.Ping, Payload: []byte("12345678")}
	p := server(t)
	for range 1000 {
		p.gets(ping)
	}
	p.tells()
	p.Out(1) // of the first one some has gone out: it does not wait
	p.gets(ping)
	p.tells()
	p.gets(says())
	p.tells("settings", "broken code 11")
	if n := len(p.Out(all)); n != 16+1000*17+9+17 {
		t.Errorf("%d octets", n)
	}
}

// One that has gone out, be it in part, waits no more; but no room takes none.
func TestTooMuchControlThatGoesOut(t *testing.T) {
	ping := api.Frame{Kind: api.Ping, Payload: []byte("12345678")}
	for _, x := range []struct{ out, room int }{{0, 0}, {-1, 0}, {1, 1}, {16, 1}, {17, 1}, {18, 2}, {34, 2}} {
		p := server(t)
		for range 1000 {
			p.gets(ping)
		}
		p.Out(x.out)
		for range x.room {
			p.gets(ping)
		}
		p.tells()
		p.gets(ping)
		p.tells("broken code 11")
	}
}

// It is looked at behind each frame, whatever that does.
func TestTooMuchControlOfOurOwn(t *testing.T) {
	for _, x := range []struct {
		f    api.Frame
		told string
	}{
		{api.Frame{Kind: 99}, "broken code 11"},
		{api.Frame{Kind: api.Settings, Ack: true}, "broken code 11"},
		{api.Frame{Kind: api.Goaway, Last: 3}, "goaway last 3; broken code 11"},
		{api.Frame{Kind: api.Headers, Stream: 1}, "broken code 11"},
		{api.Frame{Kind: api.Headers, Stream: 2}, "broken code 11"},
		{api.Frame{Kind: api.Continuation, Stream: 1}, "broken code 1"},
	} {
		p := client(t)
		for range 1001 {
			p.Request(request("GET"), true)
		}
		p.feeds(nil)
		p.tells()
		p.gets(x.f)
		p.tells(strings.Split(x.told, "; ")...)
		p.has(0, 0, 0)
	}
	p := client(t)
	for range 1000 {
		p.Request(request("GET"), true)
	}
	p.gets(api.Frame{Kind: 99})
	p.tells()
	p.has(1000, 0, 0)
}

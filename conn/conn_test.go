package conn_test

import (
	"math"
	"strings"
	"testing"

	"flume/api"
	"flume/conn"
	"flume/fields"
	"flume/settings"
)

// firstSettings are what an end sends first, as a text.
func firstSettings(t *testing.T, server bool, own api.Values) string {
	t.Helper()
	p := newPeer(t, server, own)
	if !server {
		p.Out(len(api.Preface))
	}
	return strings.Join(p.read(), "; ")
}

func TestExamples(t *testing.T) {
	c := conn.New(false, settings.Default())
	want := api.Preface + "\x00\x00\x06\x04\x00\x00\x00\x00\x00" + "\x00\x02\x00\x00\x00\x00"
	if b := string(c.Out(1000)); b != want {
		t.Errorf("%q; want %q", b, want)
	}
	p := newPeer(t, true, settings.Default())
	p.feeds([]byte("GET"))
	p.tells("broken code 1")
	p.sends("SETTINGS", "GOAWAY code 1")
}

func TestServerSendsSettingsAlone(t *testing.T) {
	c := conn.New(true, settings.Default())
	if b := string(c.Out(1000)); b != "\x00\x00\x00\x04\x00\x00\x00\x00\x00" {
		t.Errorf("%q", b)
	}
	if b := c.Out(1000); len(b) != 0 {
		t.Errorf("then %q", b)
	}
}

func TestPrefaceIsApart(t *testing.T) {
	c := conn.New(false, settings.Default())
	out := ""
	for range 100 {
		b := c.Out(3)
		if len(b) > 3 {
			t.Errorf("%d octets", len(b))
		}
		out += string(b)
	}
	if !strings.HasPrefix(out, api.Preface) || len(out) != len(api.Preface)+15 {
		t.Errorf("%q", out)
	}
}

func TestOwnValuesAreTold(t *testing.T) {
	for _, x := range []struct {
		change func(*api.Values)
		want   string // of a server
	}{
		{func(v *api.Values) {}, "SETTINGS"},
		{func(v *api.Values) { *v = api.Values{} }, "SETTINGS 3=0 6=0"},
		// Those that count as they are, or not at all.
		{func(v *api.Values) { v.Table = 0 }, "SETTINGS"},
		{func(v *api.Values) { v.Table = 65536 }, "SETTINGS"},
		{func(v *api.Values) { v.Push = false }, "SETTINGS"},
		// The window.
		{func(v *api.Values) { v.Window = math.MinInt }, "SETTINGS"},
		{func(v *api.Values) { v.Window = -1 }, "SETTINGS"},
		{func(v *api.Values) { v.Window = 65534 }, "SETTINGS"},
		{func(v *api.Values) { v.Window = 65535 }, "SETTINGS"},
		{func(v *api.Values) { v.Window = 65536 }, "SETTINGS 4=65536"},
		{func(v *api.Values) { v.Window = most }, "SETTINGS 4=2147483647"},
		{func(v *api.Values) { v.Window = most + 1 }, "SETTINGS 4=2147483647"},
		{func(v *api.Values) { v.Window = math.MaxInt }, "SETTINGS 4=2147483647"},
		// The frame.
		{func(v *api.Values) { v.Frame = math.MinInt }, "SETTINGS"},
		{func(v *api.Values) { v.Frame = 16383 }, "SETTINGS"},
		{func(v *api.Values) { v.Frame = 16384 }, "SETTINGS"},
		{func(v *api.Values) { v.Frame = 16385 }, "SETTINGS 5=16385"},
		{func(v *api.Values) { v.Frame = 1<<24 - 1 }, "SETTINGS 5=16777215"},
		{func(v *api.Values) { v.Frame = 1 << 24 }, "SETTINGS 5=16777215"},
		// The streams, and the list.
		{func(v *api.Values) { v.Streams = math.MinInt }, "SETTINGS"},
		{func(v *api.Values) { v.Streams = -2 }, "SETTINGS"},
		{func(v *api.Values) { v.Streams = 0 }, "SETTINGS 3=0"},
		{func(v *api.Values) { v.Streams = 100 }, "SETTINGS 3=100"},
		{func(v *api.Values) { v.Streams = most }, "SETTINGS 3=2147483647"},
		{func(v *api.Values) { v.Streams = most + 1 }, "SETTINGS 3=2147483647"},
		{func(v *api.Values) { v.Streams = math.MaxInt }, "SETTINGS 3=2147483647"},
		{func(v *api.Values) { v.List = -2 }, "SETTINGS"},
		{func(v *api.Values) { v.List = 0 }, "SETTINGS 6=0"},
		{func(v *api.Values) { v.List = 1000 }, "SETTINGS 6=1000"},
		{func(v *api.Values) { v.List = most + 1 }, "SETTINGS 6=2147483647"},
		// All of them, by rising numbers.
		{func(v *api.Values) { *v = api.Values{Streams: 7, Window: 70000, Frame: 20000, List: 9} }, "SETTINGS 3=7 4=70000 5=20000 6=9"},
	} {
		own := settings.Default()
		x.change(&own)
		if got := firstSettings(t, true, own); got != x.want {
			t.Errorf("server of %v: %s; want %s", own, got, x.want)
		}
		// A client asks for no push, whatever the values say.
		want := strings.TrimSpace("SETTINGS 2=0" + strings.TrimPrefix(x.want, "SETTINGS"))
		if got := firstSettings(t, false, own); got != want {
			t.Errorf("client of %v: %s; want %s", own, got, want)
		}
	}
}

func TestAtFirst(t *testing.T) {
	for _, server := range []bool{false, true} {
		p := newPeer(t, server, settings.Default())
		p.has(0, 0, 0)
		if p.Broken() || p.Done() || len(p.Sent()) != 0 {
			t.Errorf("server %v: Broken %v, Done %v", server, p.Broken(), p.Done())
		}
	}
}

// What is said of all kinds of own values holds for what comes.
func TestOwnFrame(t *testing.T) {
	for _, x := range []struct{ frame, most int }{
		{0, 16384}, {16384, 16384}, {16385, 16385}, {20000, 20000}, {1 << 24, 1<<24 - 1},
	} {
		own := settings.Default()
		own.Frame = x.frame
		p := serverOf(t, own)
		p.feeds(raw(77, 0, 0, strings.Repeat("x", x.most)))
		p.tells()
		if x.most == 1<<24-1 {
			continue
		}
		p.feeds(raw(77, 0, 0, strings.Repeat("x", x.most+1)))
		p.breaks(api.FrameSizeError, 0)
	}
}

// A stream's window is its own: the connection's may have room where it has
// none.
func TestOwnWindow(t *testing.T) {
	for _, x := range []struct{ window, most int }{
		{math.MinInt, 65535}, {0, 65535}, {65534, 65535}, {65535, 65535}, {65536, 65536}, {70000, 70000},
	} {
		own := settings.Default()
		own.Window = x.window
		p := serverOf(t, own)
		p.asks(1, false)
		p.asks(3, false)
		p.gets(octets(3, 16000), octets(3, 16000), octets(3, 8000), octets(1, 15000), octets(1, 10000))
		p.is(p.Consumed(1, 25000), api.OK)
		p.is(p.Consumed(3, 7768), api.OK)
		p.sends("UPDATE inc 32768")
		p.gets(octets(3, 16000), octets(3, x.most-56000))
		p.skip()
		p.has(2, 0, x.most-7768)
		p.gets(octets(3, 1))
		p.tells("reset 3 end code 3")
		p.has(1, 0, 0)
	}
}

// The connection's window is the first one, whatever the own values say.
func TestWindowOfTheConnection(t *testing.T) {
	for _, own := range []int{0, 65535, 100000, most} {
		values := settings.Default()
		values.Window = own
		p := serverOf(t, values)
		p.asks(1, false)
		for range 5 {
			p.gets(octets(1, 13107))
		}
		p.skip()
		p.has(1, 0, 65535)
		p.gets(octets(1, 1))
		p.breaks(api.FlowControlError, 1)
	}
}

func TestOwnStreams(t *testing.T) {
	for _, x := range []struct{ streams, most int }{{0, 0}, {1, 1}, {3, 3}} {
		own := settings.Default()
		own.Streams = x.streams
		p := serverOf(t, own)
		for i := range x.most {
			p.asks(2*i+1, true)
		}
		p.gets(p.headers(2*x.most+1, request("GET"), true))
		p.tells()
		p.has(x.most, 0, 0)
	}
}

func TestOwnList(t *testing.T) {
	l := request("GET")
	size := fields.Size(l)
	for _, x := range []struct{ list, most int }{
		{-1, 65536}, {-2, 65536}, {math.MinInt, 65536}, {65535, 65535}, {65536, 65536}, {65537, 65537}, {200, 200}, {size + 33, size + 33},
	} {
		own := settings.Default()
		own.List = x.list
		p := serverOf(t, own)
		// Of two fields more the first may be, the second is one octet too long.
		fill := x.most - size - 33
		for i, more := range []int{fill, fill + 1} {
			l := request("GET", "a", strings.Repeat("0", more))
			p.gets(p.block(2*i+1, l, true, 16384)...)
			if more == fill {
				p.tells(eventText(api.Event{Kind: api.EvHead, Stream: 1, Fields: l, End: true}))
			} else {
				p.resets(3, api.EnhanceYourCalm)
			}
		}
	}
	for _, list := range []int{0, 1, size - 1} {
		own := settings.Default()
		own.List = list
		p := serverOf(t, own)
		p.gets(p.headers(1, l, true))
		p.resets(1, api.EnhanceYourCalm)
	}
}

// The decoder's table has 4096, whatever the values say, and the encoder's too.
func TestTables(t *testing.T) {
	own := settings.Default()
	own.Table = 0
	for _, size := range []string{"\x3f\xe1\x1f", "\x3f\xe2\x1f"} { // 4096 and 4097
		p := serverOf(t, own)
		p.feeds(raw(api.Headers, 5, 1, size+"\x82\x84\x86"))
		if size == "\x3f\xe1\x1f" {
			p.tells("head 1 [:method=GET :path=/ :scheme=http] end")
		} else {
			p.breaks(api.CompressionError, 0)
		}
	}
	// A field of 4096 is put into the table, and is told by its number then.
	p := clientOf(t, own)
	for _, x := range []struct{ value, octets int }{{4096 - 33, 1000}, {4096 - 32, 4064}} {
		l := request("GET", "a", strings.Repeat("~", x.value))
		p.Request(l, true)
		p.read()
		p.Request(l, true)
		if b := p.Out(all); (len(b) > x.octets) != (x.value == 4096-32) {
			t.Errorf("a value of %d: %d octets", x.value, len(b))
		}
		p = clientOf(t, own)
	}
}

// Two ends have nothing to do with each other: R3.
func TestEndsAreApart(t *testing.T) {
	a, b := client(t), client(t)
	a.opens(1, false)
	a.is(a.Data(1, []byte("abc"), false), api.OK)
	b.has(0, 0, 0)
	b.opens(1, true)
	a.Shutdown()
	b.opens(3, true)
	a.feeds(raw(api.Ping, 0, 1, "12345678"))
	if !a.Broken() || b.Broken() || b.Done() {
		t.Errorf("Broken %v, %v", a.Broken(), b.Broken())
	}
}

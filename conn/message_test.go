package conn_test

import (
	"strings"
	"testing"

	"flume/api"
	"flume/settings"
)

// Header blocks that come.

func TestRequestsAreTold(t *testing.T) {
	p := server(t)
	p.gets(p.headers(1, request("GET"), true), p.headers(7, request("POST", "content-length", "5"), false))
	p.tells("head 1 [:method=GET :scheme=http :path=/] end", "head 7 [:method=POST :scheme=http :path=/ content-length=5]")
	p.sends()
	p.has(2, 0, 0)
	f := p.headers(9, list(":method", "CONNECT", ":authority", "a"), false)
	f.Pad, f.Prio, f.Depend, f.Weight = 9, true, 9, 3
	p.gets(f)
	p.tells("head 9 [:method=CONNECT :authority=a]")
	secret := request("GET")
	secret = append(secret, api.Field{Name: "a", Value: "b", Never: true})
	p.gets(p.headers(11, secret, true))
	p.tells("head 11 [:method=GET :scheme=http :path=/ a=b never] end")
}

func TestAnswersAreTold(t *testing.T) {
	p := asking(t, true)
	p.opens(3, false)
	p.gets(p.headers(3, answer("200"), true), p.headers(1, answer("404", "a", "b"), false))
	p.tells("head 3 [:status=200] end", "head 1 [:status=404 a=b]")
	p.has(2, 0, 0)
	p.sends()
}

func TestBlocksThatAreNone(t *testing.T) {
	for _, id := range []int{1, 2, 3} {
		p := asked(t, 1, false)
		p.gets(api.Frame{Kind: api.Headers, Stream: id, EndHeaders: true, Payload: []byte("\x80")})
		p.breaks(api.CompressionError, 1)
	}
}

// The table goes on, whatever becomes of a block.
func TestBlocksChangeTheTable(t *testing.T) {
	p := asked(t, 1, true)
	p.is(p.Reset(1, 0), api.OK)
	p.gets(
		p.headers(1, list("a", "1"), false),                                // ignored
		p.headers(3, list("b", "2"), false),                                // not right
		p.headers(5, request("GET", "c", strings.Repeat("x", 1000)), true), // right
		p.headers(7, list("a", "1", "b", "2", "c", strings.Repeat("x", 1000)), true),
		p.headers(9, request("GET", "a", "1", "b", "2", "c", "3"), true),
	)
	p.tells("reset 3 end code 1", "head 5 [:method=GET :scheme=http :path=/ c=xxxxxxxx..(1000)] end", "reset 7 end code 1",
		"head 9 [:method=GET :scheme=http :path=/ a=1 b=2 c=3] end")
}

func TestNumbersThatMayNotBeOpened(t *testing.T) {
	for _, id := range []int{2, 4, most - 1} {
		p := asked(t, 3, true)
		p.gets(p.headers(id, request("GET"), true))
		p.breaks(api.ProtocolError, 3)
	}
	for _, id := range []int{2, 3, 5, most} {
		p := asking(t, true)
		p.gets(p.headers(id, answer("200"), true))
		p.breaks(api.ProtocolError, 0)
	}
	p := server(t)
	p.asks(most, true)
}

// A number below one that was opened is of a stream that is closed.
func TestNumbersThatArePast(t *testing.T) {
	p := asked(t, 3, true)
	p.gets(p.headers(1, request("GET"), true))
	p.breaks(api.StreamClosed, 3)
	p = asked(t, 3, true)
	p.answers(3, true)
	p.gets(p.headers(3, list("a", "b"), true))
	p.breaks(api.StreamClosed, 3)
	// So is one that the peer has reset.
	p = asked(t, 1, false)
	p.gets(rst(1, 0), p.headers(1, list("a", "b"), true))
	p.tells("reset 1", "broken code 5")
	// One that is closed, and still there.
	p = asked(t, 1, false)
	p.gets(data(1, "abc", true))
	p.answers(1, true)
	p.tells(`data 1 "abc" end`)
	p.gets(p.headers(1, list("a", "b"), true))
	p.breaks(api.StreamClosed, 1)
	// What was reset here is let by.
	p = asked(t, 1, false)
	p.is(p.Reset(1, 9), api.OK)
	p.gets(p.headers(1, list("a", "b"), true), p.headers(1, nil, false))
	p.tells()
	p.sends("RST 1 code 9")
}

func TestNoMoreThanMostStreams(t *testing.T) {
	own := settings.Default()
	own.Streams = 2
	p := serverOf(t, own)
	p.asks(1, true)
	p.asks(5, false)
	p.gets(p.headers(7, request("GET"), false))
	p.tells()
	p.sends("RST 7 code 7")
	p.has(2, 0, 0)
	// What belongs to it is let by; its number is not new any more.
	p.gets(data(7, "abc", false), p.headers(7, list("a", "b"), true))
	p.tells()
	p.sends()
	p.has(2, 0, 0)
	p.is(p.Respond(7, answer("200"), true), api.ErrNone)
	p.answers(1, true)
	p.asks(9, true)
	p.Shutdown()
	p.sends("GOAWAY last 9")
}

// Of a stream that is refused the fields need not be right.
func TestNoMoreThanMostStreamsOfAnyFields(t *testing.T) {
	own := settings.Default()
	own.Streams = 0
	own.List = 50
	p := serverOf(t, own)
	p.gets(p.headers(1, list("A", "b"), false), p.headers(3, list("a", strings.Repeat("b", 100)), false))
	p.tells()
	p.sends("RST 1 code 7", "RST 3 code 7")
}

func TestNoMoreOfOneThatIsShut(t *testing.T) {
	own := settings.Default()
	own.Streams = 2
	p := serverOf(t, own)
	p.asks(1, false)
	p.Shutdown()
	p.sends("GOAWAY last 1")
	for i := range 5 {
		p.gets(p.headers(3+2*i, request("GET"), true))
		p.tells()
		p.has(1, 0, 0)
	}
	p.sends("RST 3 code 7", "RST 5 code 7", "RST 7 code 7", "RST 9 code 7", "RST 11 code 7")
	p.gets(data(3, "abc", true))
	p.tells()
	// What there is lives on.
	p.gets(p.headers(1, list("a", "b"), true))
	p.tells("trail 1 [a=b] end")
	p.answers(1, true)
	if !p.Done() {
		t.Error("not done")
	}
}

func TestHeadsThatAreNotRight(t *testing.T) {
	for _, l := range [][]api.Field{
		nil, answer("200"), list("a", "b"), list(":method", "GET"), request("GET", "A", "b"), request("GET", "content-length", "x"),
		request("GET", "content-length", "5", "content-length", "6"), request("GET", "te", "gzip"), list("a", "b", ":method", "GET"),
	} {
		for _, end := range []bool{false, true} {
			p := server(t)
			p.gets(p.headers(1, l, end))
			p.resets(1, api.ProtocolError)
			p.has(0, 0, 0)
			p.gets(data(1, "abc", true))
			p.tells()
		}
	}
	for _, l := range [][]api.Field{nil, request("GET"), list("a", "b"), answer("20"), answer("099"), answer("200", "connection", "x"), answer("1000")} {
		for _, end := range []bool{false, true} {
			p := asking(t, true)
			p.gets(p.headers(1, l, end))
			p.resets(1, api.ProtocolError)
			p.has(0, 0, 0)
		}
	}
}

func TestAnswersAhead(t *testing.T) {
	p := asking(t, false)
	for _, status := range []string{"100", "103", "199"} {
		p.gets(p.headers(1, answer(status, "a", "b"), false))
		p.tells()
		p.has(1, 0, 0)
	}
	p.gets(p.headers(1, answer("200"), false), p.headers(1, list("a", "b"), true))
	p.tells("head 1 [:status=200]", "trail 1 [a=b] end")
	for _, status := range []string{"100", "199"} {
		p = asking(t, false)
		p.gets(p.headers(1, answer(status), true))
		p.resets(1, api.ProtocolError)
	}
	// They are no answer: no data may be behind.
	p = asking(t, false)
	p.gets(p.headers(1, answer("100"), false), data(1, "", false))
	p.resets(1, api.ProtocolError)
}

// A block of too many fields is a fault of its stream, but what comes ahead
// in the row of what is done is ahead.
func TestListsThatAreTooLong(t *testing.T) {
	own := settings.Default()
	own.List = 150
	long := list("a", strings.Repeat("b", 150))
	p := serverOf(t, own)
	p.gets(p.headers(1, long, true))
	p.resets(1, api.EnhanceYourCalm)
	p.asks(3, false)
	p.gets(p.headers(3, long, false))
	p.resets(3, api.EnhanceYourCalm)
	p.asks(5, true)
	p.gets(p.headers(5, long, false))
	p.resets(5, api.StreamClosed)
	p.gets(p.headers(5, long, false))
	p.tells()
	p.gets(p.headers(2, long, false))
	p.breaks(api.ProtocolError, 5)
	p = serverOf(t, own)
	p.asks(3, true)
	p.gets(p.headers(1, long, false))
	p.breaks(api.StreamClosed, 3)
	// Of a stream that is closed by it, too.
	q := clientOf(t, own)
	q.opens(1, true)
	q.gets(q.headers(1, long, true))
	q.resets(1, api.EnhanceYourCalm)
	q.has(0, 0, 0)
	q.gets(data(1, "abc", false))
	q.tells()
}

func TestTrailersAreTold(t *testing.T) {
	for _, l := range [][]api.Field{list("a", "b"), nil, list("content-length", "77"), list("te", "trailers")} {
		p := asked(t, 1, false)
		p.gets(data(1, "abc", false), p.headers(1, l, true))
		want := eventText(api.Event{Kind: api.EvTrail, Stream: 1, Fields: l, End: true})
		p.tells(`data 1 "abc"`, want)
		p.sends()
		p.has(1, 0, 3)
		q := asking(t, true)
		q.gets(q.headers(1, answer("200"), false), q.headers(1, l, true))
		q.tells("head 1 [:status=200]", want)
		q.has(0, 0, 0)
	}
}

func TestTrailersThatAreNotRight(t *testing.T) {
	for _, x := range []struct {
		l   []api.Field
		end bool
	}{
		{list("a", "b"), false}, {nil, false}, {list(":status", "200"), true}, {request("GET"), true}, {list("A", "b"), true},
		{list("te", "gzip"), true}, {list("content-length", "x"), true},
	} {
		p := asked(t, 1, false)
		p.gets(p.headers(1, x.l, x.end))
		p.resets(1, api.ProtocolError)
		p.has(0, 0, 0)
	}
}

// Nothing may come behind the end of a stream.
func TestBlocksBehindTheEnd(t *testing.T) {
	for _, end := range []bool{false, true} {
		p := asked(t, 1, true)
		p.gets(p.headers(1, list("a", "b"), end))
		p.resets(1, api.StreamClosed)
		q := asking(t, false)
		q.gets(q.headers(1, answer("200"), true), q.headers(1, list("a", "b"), end))
		q.tells("head 1 [:status=200] end", "reset 1 end code 5")
		q.sends("RST 1 code 5")
		q.has(0, 0, 0)
	}
}

// Lengths.

// lengthCase is a message with a content-length: how much data comes, in which
// pieces, how it ends, and whether it is right.
type lengthCase struct {
	length string
	pieces []string
	trail  bool
	right  bool
}

func TestLengths(t *testing.T) {
	for _, x := range []lengthCase{
		{"5", []string{"abcde"}, false, true},
		{"5", []string{"ab", "", "cde"}, false, true},
		{"5", []string{"abcde", ""}, false, true},
		{"5", []string{"abcde"}, true, true},
		{"0", []string{""}, false, true},
		{"0", nil, true, true},
		{"005", []string{"abcde"}, false, true},
		{"5", []string{"abcd"}, false, false},
		{"5", []string{""}, false, false},
		{"5", []string{"abcdef"}, false, false},
		{"5", []string{"abcd"}, true, false},
		{"5", nil, true, false},
		{"0", []string{"a"}, false, false},
		{"", []string{"a", "bcd"}, false, true},
		{"", nil, true, true},
		{"999999999999999", []string{"a"}, false, false},
	} {
		p := server(t)
		l := request("POST")
		if x.length != "" {
			l = request("POST", "content-length", x.length)
		}
		p.gets(p.headers(1, l, false))
		want := []string{"head 1 " + fieldsText(l)}
		came := 0
		for i, piece := range x.pieces {
			last := i == len(x.pieces)-1 && !x.trail
			p.gets(padded(data(1, piece, last), i)) // padding is no data
			came += len(piece)
			want = append(want, eventText(api.Event{Kind: api.EvData, Stream: 1, Data: []byte(piece), End: last}))
		}
		if x.trail {
			p.gets(p.headers(1, nil, true))
			want = append(want, "trail 1 end")
		}
		if !x.right {
			want[len(want)-1] = "reset 1 end code 1"
		}
		p.tells(want...)
		if !x.right {
			p.sends("RST 1 code 1")
			p.has(0, 0, 0)
		} else {
			p.has(1, 0, came)
		}
	}
}

// It is a fault as soon as more came, not at the end.
func TestMoreThanTheLength(t *testing.T) {
	p := server(t)
	p.gets(p.headers(1, request("POST", "content-length", "3"), false), data(1, "abc", false))
	p.skip()
	p.gets(data(1, "d", false))
	p.resets(1, api.ProtocolError)
}

func TestLengthsOfHeadsThatEnd(t *testing.T) {
	for _, x := range []struct {
		length string
		right  bool
	}{{"0", true}, {"00", true}, {"1", false}, {"999999999999999", false}} {
		p := server(t)
		l := request("POST", "content-length", x.length)
		p.gets(p.headers(1, l, true))
		if x.right {
			p.tells("head 1 " + fieldsText(l) + " end")
		} else {
			p.resets(1, api.ProtocolError)
		}
	}
}

// An answer to HEAD, and those of 204 and 304, have no data, whatever length
// they tell.
func TestAnswersWithoutData(t *testing.T) {
	for _, x := range []struct {
		method, status string
		none           bool
	}{
		{"HEAD", "200", true}, {"HEAD", "404", true}, {"GET", "204", true}, {"GET", "304", true}, {"POST", "304", true},
		{"GET", "200", false}, {"GET", "203", false}, {"GET", "205", false}, {"GET", "303", false}, {"GET", "305", false},
		{"head", "200", false}, {"HEADS", "200", false},
	} {
		ask := func() *peer {
			p := client(t)
			_, e := p.Request(request(x.method), true)
			p.is(e, api.OK)
			p.read()
			return p
		}
		l := answer(x.status, "content-length", "3")
		p := ask()
		p.gets(p.headers(1, l, true))
		if x.none {
			p.tells("head 1 " + fieldsText(l) + " end")
			p.has(0, 0, 0)
		} else {
			p.resets(1, api.ProtocolError)
		}
		p = ask()
		p.gets(p.headers(1, l, false), data(1, "", false), data(1, "abc", true))
		if x.none {
			p.tells("head 1 "+fieldsText(l), "data 1", "reset 1 end code 1")
		} else {
			p.tells("head 1 "+fieldsText(l), "data 1", `data 1 "abc" end`)
		}
		p = ask()
		p.gets(p.headers(1, l, false), data(1, "", true))
		if x.none {
			p.tells("head 1 "+fieldsText(l), "data 1 end")
		} else {
			p.tells("head 1 "+fieldsText(l), "reset 1 end code 1")
		}
		p = ask()
		p.gets(p.headers(1, l, false), p.headers(1, nil, true))
		if x.none {
			p.tells("head 1 "+fieldsText(l), "trail 1 end")
		} else {
			p.tells("head 1 "+fieldsText(l), "reset 1 end code 1")
		}
		// Without a length, too.
		p = ask()
		p.gets(p.headers(1, answer(x.status), false), data(1, "a", false))
		if x.none {
			p.tells("head 1 "+fieldsText(answer(x.status)), "reset 1 end code 1")
		} else {
			p.tells("head 1 "+fieldsText(answer(x.status)), `data 1 "a"`)
		}
	}
}

// Data that comes.

func TestDataIsTold(t *testing.T) {
	p := asked(t, 1, false)
	p.gets(data(1, "abc", false), padded(data(1, "", false), 1), padded(data(1, "de", false), 256), padded(data(1, "f", true), 3))
	p.tells(`data 1 "abc"`, "data 1", `data 1 "de"`, `data 1 "f" end`)
	p.sends()
	p.has(1, 0, 6)
}

func TestDataIsNeverMoreThanTheConnectionGranted(t *testing.T) {
	for _, x := range []struct{ payload, pad int }{{1, 0}, {0, 1}} {
		p := asked(t, 1, false)
		p.asks(3, false)
		for range 3 {
			p.gets(octets(1, 16384))
		}
		p.gets(octets(3, 16383))
		p.skip()
		p.has(2, 0, 65535)
		p.gets(data(1, "", false))
		p.tells("data 1")
		p.gets(padded(octets(3, x.payload), x.pad))
		p.breaks(api.FlowControlError, 3)
	}
	// Be it of a stream that there is or not.
	for _, id := range []int{1, 2, 3, 5, 9} {
		p := asked(t, 3, false)
		for range 4 {
			p.gets(octets(3, 16383))
		}
		p.skip()
		p.gets(octets(id, 4))
		p.breaks(api.FlowControlError, 3)
	}
}

func TestDataOfNoStream(t *testing.T) {
	for _, id := range []int{2, 5, 7} {
		p := asked(t, 3, false)
		p.gets(data(id, "abc", false))
		p.breaks(api.ProtocolError, 3)
	}
	p := asking(t, false)
	p.gets(data(3, "abc", false))
	p.breaks(api.ProtocolError, 0)
	// Of one that is past.
	p = asked(t, 3, true)
	p.gets(data(1, "abc", false))
	p.breaks(api.StreamClosed, 3)
	p = asked(t, 3, true)
	p.answers(3, true)
	p.gets(data(3, "", true))
	p.breaks(api.StreamClosed, 3)
	p = asked(t, 3, false)
	p.gets(rst(3, 0))
	p.skip()
	p.gets(data(3, "", false))
	p.breaks(api.StreamClosed, 3)
	// Of one that is closed, and still there.
	p = asked(t, 3, false)
	p.gets(data(3, "abc", true))
	p.answers(3, true)
	p.skip()
	p.gets(data(3, "", false))
	p.breaks(api.StreamClosed, 3)
}

// What comes on a stream that was reset here is let by, and freed at once.
func TestDataOfAStreamThatWasReset(t *testing.T) {
	p := asked(t, 1, false)
	p.is(p.Reset(1, 5), api.OK)
	p.sends("RST 1 code 5")
	p.gets(octets(1, 16384), padded(octets(1, 16000), 100))
	p.tells()
	p.sends()
	p.has(0, 0, 0)
	p.gets(padded(octets(1, 283), 0))
	p.sends()
	p.gets(padded(octets(1, 0), 1))
	p.tells()
	p.sends("UPDATE inc 32768")
	p.has(0, 0, 0)
}

func TestDataBehindTheEnd(t *testing.T) {
	for _, end := range []bool{false, true} {
		p := asked(t, 1, true)
		p.gets(data(1, "abc", end))
		p.resets(1, api.StreamClosed)
		p.has(0, 0, 0)
		p = asked(t, 1, false)
		p.gets(data(1, "abc", true))
		p.skip()
		p.gets(data(1, "abc", end))
		p.resets(1, api.StreamClosed)
		p.has(0, 0, 0)
	}
}

// What is freed with a reset is granted ahead of it, but what the stream holds
// behind it.
func TestDataBehindTheEndFrees(t *testing.T) {
	p := asked(t, 1, false)
	p.gets(octets(1, 16384), octets(1, 16383), data(1, "", true))
	p.asks(3, true)
	p.skip()
	p.gets(octets(3, 16384))
	p.skip()
	p.sends("RST 3 code 5")
	p.asks(5, true)
	p.gets(octets(5, 16384))
	p.tells("reset 5 end code 5")
	p.sends("UPDATE inc 32768", "RST 5 code 5")
	p.has(1, 0, 32767)
	p.gets(octets(1, 1))
	p.tells("reset 1 end code 5")
	p.sends("RST 1 code 5", "UPDATE inc 32768")
	p.has(0, 0, 0)
}

func TestDataAboveTheWindowOfAStreamFrees(t *testing.T) {
	own := settings.Default()
	p := serverOf(t, own)
	p.asks(1, false)
	p.asks(3, false)
	p.gets(octets(3, 16000), octets(3, 16000), octets(3, 8000), octets(1, 15000), octets(1, 10000))
	p.is(p.Consumed(1, 25000), api.OK)
	p.is(p.Consumed(3, 7768), api.OK)
	p.sends("UPDATE inc 32768")
	p.gets(octets(3, 16000))
	p.skip()
	p.has(2, 0, 48232)
	p.gets(padded(octets(3, 9535), 1))
	p.tells("reset 3 end code 3")
	// 9536 of what came now, and 48232 of what was held, make half only together.
	p.sends("RST 3 code 3", "UPDATE inc 57768")
	p.has(1, 0, 0)
}

func TestDataAheadOfTheHead(t *testing.T) {
	for _, x := range []struct {
		text string
		end  bool
	}{{"abc", false}, {"", false}, {"", true}, {"abc", true}} {
		p := asking(t, false)
		p.gets(data(1, x.text, x.end))
		p.resets(1, api.ProtocolError)
		p.has(0, 0, 0)
	}
}

// Padding is consumed at once, in both credits.
func TestPaddingIsFreed(t *testing.T) {
	p := asked(t, 1, false)
	for range 127 {
		p.gets(padded(octets(1, 1), 256))
	}
	p.skip()
	p.sends()
	p.gets(padded(octets(1, 1), 256))
	p.tells(`data 1 "x"`)
	p.sends("UPDATE inc 32768", "UPDATE 1 inc 32768")
	p.has(1, 0, 128)
	// A stream whose peer has ended gets no more.
	for _, end := range []bool{false, true} {
		p = asked(t, 1, false)
		for range 127 {
			p.gets(padded(octets(1, 0), 256))
		}
		p.gets(padded(data(1, "", end), 256))
		p.skip()
		if end {
			p.sends("UPDATE inc 32768")
		} else {
			p.sends("UPDATE inc 32768", "UPDATE 1 inc 32768")
		}
	}
}

// A stream is no more as soon as it is closed, and nothing of it is held.
func TestClosedByData(t *testing.T) {
	for _, x := range []struct {
		text string
		pad  int
		left int
	}{{"", 0, 0}, {"", 5, 0}, {"abc", 0, 1}, {"abc", 2, 1}} {
		p := asked(t, 1, false)
		p.answers(1, true)
		p.has(1, 0, 0)
		p.gets(padded(data(1, x.text, true), x.pad))
		p.has(x.left, 0, len(x.text))
		p.is(p.Respond(1, answer("200"), true), []api.Errno{api.ErrNone, api.ErrState}[x.left])
		if x.left == 1 {
			p.is(p.Consumed(1, 2), api.OK)
			p.has(1, 0, 1)
			p.is(p.Consumed(1, 1), api.OK)
			p.has(0, 0, 0)
		}
		p.is(p.Consumed(1, 0), api.ErrNone)
	}
}

func TestClosedByABlock(t *testing.T) {
	p := asked(t, 1, false)
	p.gets(data(1, "abc", false))
	p.answers(1, true)
	p.gets(p.headers(1, nil, true))
	p.tells(`data 1 "abc"`, "trail 1 end")
	p.has(1, 0, 3)
	p.is(p.Consumed(1, 3), api.OK)
	p.has(0, 0, 0)
	p = asked(t, 1, false)
	p.answers(1, true)
	p.gets(p.headers(1, nil, true))
	p.has(0, 0, 0)
	p = asking(t, true)
	p.gets(p.headers(1, answer("200"), true))
	p.has(0, 0, 0)
}

// One that is closed makes room for another, though it be still there.
func TestClosedMakesRoom(t *testing.T) {
	own := settings.Default()
	own.Streams = 1
	p := serverOf(t, own)
	p.asks(1, false)
	p.gets(data(1, "abc", true))
	p.skip()
	p.answers(1, true)
	p.has(1, 0, 3)
	p.asks(3, true)
	p.has(2, 0, 3)
	p.gets(p.headers(5, request("GET"), true))
	p.tells()
	p.sends("RST 5 code 7")
	p.is(p.Consumed(1, 3), api.OK)
	p.gets(p.headers(7, request("GET"), true))
	p.tells()
	p.sends("RST 7 code 7")
	p.answers(3, true)
	p.asks(9, true)
	q := client(t, setting(3, 1))
	q.opens(1, true)
	q.gets(q.headers(1, answer("200"), false), data(1, "abc", true))
	q.skip()
	q.has(1, 0, 3)
	q.opens(3, true)
}

// What was reset is remembered: the last 64.
func TestResetsAreRemembered(t *testing.T) {
	for _, more := range []int{63, 64} {
		p := server(t)
		p.asks(1, false)
		p.is(p.Reset(1, 0), api.OK)
		for i := range more {
			switch i % 3 {
			case 0:
				p.asks(2*i+3, false)
				p.is(p.Reset(2*i+3, 0), api.OK)
			case 1:
				p.gets(p.headers(2*i+3, nil, false)) // not right
			default:
				p.asks(2*i+3, false)
				p.feeds(noInc(2*i + 3))
			}
		}
		p.read()
		p.skip()
		p.gets(data(1, "abc", false))
		if more == 63 {
			p.tells()
			p.gets(p.headers(1, list("a", "b"), false), rst(1, 0), update(1, 1))
			p.tells()
			p.sends()
		} else {
			p.breaks(api.StreamClosed, 2*more+1)
		}
	}
}

// Refused ones are remembered too, those that the peer has reset are not.
func TestWhichResetsAreRemembered(t *testing.T) {
	own := settings.Default()
	own.Streams = 1
	p := serverOf(t, own)
	p.asks(1, false)
	p.is(p.Reset(1, 0), api.OK)
	for i := range 100 {
		p.asks(2*i+3, false)
		p.gets(rst(2*i+3, 0))
	}
	p.skip()
	p.gets(data(1, "abc", false))
	p.tells()
	p.asks(301, false)
	for i := range 63 {
		p.gets(p.headers(2*i+303, request("GET"), true))
	}
	p.gets(data(1, "abc", false))
	p.tells()
	p.gets(p.headers(501, request("GET"), true), data(303, "abc", false))
	p.tells()
	p.gets(data(1, "abc", false))
	p.tells("broken code 5")
}

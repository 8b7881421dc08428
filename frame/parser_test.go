package frame_test

import (
	"bytes"
	"math"
	"math/rand"
	"strings"
	"testing"

	"flume/api"
	"flume/frame"
)

// limits are what New and SetMax may be handed, and the Max that counts.
var limits = []struct{ n, max int }{
	{math.MinInt, 16384}, {-1, 16384}, {0, 16384}, {1, 16384}, {16383, 16384}, {16384, 16384},
	{16385, 16385}, {65536, 65536}, {1<<24 - 2, 1<<24 - 2}, {1<<24 - 1, 1<<24 - 1}, {1 << 24, 1<<24 - 1}, {1 << 32, 1<<24 - 1}, {math.MaxInt, 1<<24 - 1},
}

// head is that of a Data frame of stream 1 with so many octets.
func head(length int) string {
	return string([]byte{byte(length >> 16), byte(length >> 8), byte(length), 0, 0, 0, 0, 0, 1})
}

func TestMax(t *testing.T) {
	plenty := make([]byte, 1<<24+100)
	for _, x := range limits {
		set := frame.New(1 << 20)
		set.SetMax(x.n)
		for _, p := range []*frame.Parser{frame.New(x.n), set} {
			tellsNothing(t, p, 0)
			if n := p.Feed(plenty); n != x.max+9 || p.Size() != n {
				t.Errorf("max %d: took %d, Size %d", x.n, n, p.Size())
			}
			if n := p.Feed(plenty); n != 0 || p.Size() != x.max+9 {
				t.Errorf("max %d: a full one took %d, Size %d", x.n, n, p.Size())
			}
		}
	}
}

// A payload may have just Max octets, and one that is longer is told as soon
// as its head is there, whatever else is wrong with it.
func TestLengthsAboveMax(t *testing.T) {
	for _, x := range limits {
		if x.max > 65536 {
			continue
		}
		p := frame.New(x.n)
		feeds(t, p, head(x.max))
		tellsNothing(t, p, 9)
		feeds(t, p, strings.Repeat("~", x.max-1))
		tellsNothing(t, p, x.max+8)
		feeds(t, p, "~")
		tells(t, p, api.Frame{Kind: api.Data, Stream: 1, Payload: bytes.Repeat([]byte{'~'}, x.max)}, 0)
		feeds(t, p, head(x.max + 1)[:8])
		tellsNothing(t, p, 8)
		feeds(t, p, "\x01abc")
		tellsFault(t, p, fault(api.FrameSizeError, 0), 0)
		isDone(t, p)
	}
	for _, b := range []string{
		"\x00\x40\x01\x00\x00\x00\x00\x00\x00", // Data of no stream
		"\x00\x40\x01\x02\x00\x00\x00\x00\x03", // Priority of a wrong size: the stream's else
		"\x01\x00\x00\x63\x00\x00\x00\x00\x01", // an unknown kind
		"\xff\xff\xff\x06\x00\x00\x00\x00\x05",
	} {
		p := frame.New(0)
		feeds(t, p, b)
		tellsFault(t, p, fault(api.FrameSizeError, 0), 0)
		isDone(t, p)
	}
}

// What SetMax said last counts, for what is held already too.
func TestSetMaxWhileOctetsAreHeld(t *testing.T) {
	p := frame.New(20000)
	feeds(t, p, head(20000))
	p.SetMax(19999)
	tellsFault(t, p, fault(api.FrameSizeError, 0), 0)
	isDone(t, p)

	p = frame.New(20000)
	feeds(t, p, head(20001))
	p.SetMax(20001)
	tellsNothing(t, p, 9)
	feeds(t, p, strings.Repeat("~", 20001))
	tells(t, p, api.Frame{Kind: api.Data, Stream: 1, Payload: bytes.Repeat([]byte{'~'}, 20001)}, 0)

	// More is held than may be: nothing is taken, till there is room again.
	p = frame.New(20000)
	feeds(t, p, head(16384)+strings.Repeat("~", 16384)+head(1)+"x"+head(5000))
	p.SetMax(0)
	if n := p.Feed([]byte("yz")); n != 0 || p.Size() != 16384+28 {
		t.Errorf("took %d, Size %d", n, p.Size())
	}
	tells(t, p, api.Frame{Kind: api.Data, Stream: 1, Payload: bytes.Repeat([]byte{'~'}, 16384)}, 19)
	tells(t, p, api.Frame{Kind: api.Data, Stream: 1, Payload: []byte("x")}, 9)
	feeds(t, p, strings.Repeat("z", 5000))
	tells(t, p, api.Frame{Kind: api.Data, Stream: 1, Payload: bytes.Repeat([]byte{'z'}, 5000)}, 0)
}

func TestFeedTakesWhatHasRoom(t *testing.T) {
	p := frame.New(0)
	for _, b := range [][]byte{nil, {}} {
		if n := p.Feed(b); n != 0 || p.Size() != 0 {
			t.Errorf("took %d, Size %d", n, p.Size())
		}
	}
	feeds(t, p, head(16384)+strings.Repeat("a", 16382))
	if n := p.Feed([]byte("bcdefg")); n != 2 || p.Size() != 16393 {
		t.Errorf("took %d, Size %d", n, p.Size())
	}
	tells(t, p, api.Frame{Kind: api.Data, Stream: 1, Payload: []byte(strings.Repeat("a", 16382) + "bc")}, 0)
	feeds(t, p, strings.Repeat("\x00", 16393))
	if n := p.Feed([]byte("x")); n != 0 || p.Size() != 16393 {
		t.Errorf("took %d, Size %d", n, p.Size())
	}
	tellsFault(t, p, fault(api.ProtocolError, 0), 0)
	isDone(t, p)
}

func TestNextOfLessThanAHead(t *testing.T) {
	for _, b := range []string{head(0), "\xff\xff\xff\xff\xff\xff\xff\xff\xff", "\x00\x00\x00\x00\x00\x00\x00\x00\x00"} {
		for n := range b {
			tellsNothing(t, fed(t, b[:n]), n)
		}
	}
}

// Of a stream's fault the frame is held no more, and all goes on; behind one
// of the connection the parser is done.
func TestFaultsOfPayloads(t *testing.T) {
	size, protocol := api.FrameSizeError, api.ProtocolError
	for _, x := range []struct {
		b    string
		want api.Fault
	}{
		// A kind that must be on a stream, and is not; and the other way round.
		{"\x00\x00\x00\x00\x00\x00\x00\x00\x00", fault(protocol, 0)},
		{"\x00\x00\x00\x00\x00\x80\x00\x00\x00", fault(protocol, 0)},
		{"\x00\x00\x00\x01\x00\x00\x00\x00\x00", fault(protocol, 0)},
		{"\x00\x00\x05\x02\x00\x00\x00\x00\x00\x00\x00\x00\x00\x00", fault(protocol, 0)},
		{"\x00\x00\x04\x03\x00\x00\x00\x00\x00\x00\x00\x00\x00", fault(protocol, 0)},
		{"\x00\x00\x00\x04\x00\x00\x00\x00\x01", fault(protocol, 0)},
		{"\x00\x00\x04\x05\x00\x00\x00\x00\x00\x00\x00\x00\x01", fault(protocol, 0)},
		{"\x00\x00\x08\x06\x00\x40\x00\x00\x0012345678", fault(protocol, 0)},
		{"\x00\x00\x08\x07\x00\x00\x00\x00\x01\x00\x00\x00\x00\x00\x00\x00\x00", fault(protocol, 0)},
		{"\x00\x00\x00\x09\x00\x00\x00\x00\x00", fault(protocol, 0)},
		// That is ahead of a wrong size, and of what is in the payload.
		{"\x00\x00\x00\x00\x08\x00\x00\x00\x00", fault(protocol, 0)},
		{"\x00\x00\x04\x02\x00\x00\x00\x00\x00\x00\x00\x00\x00", fault(protocol, 0)},
		{"\x00\x00\x01\x04\x01\x00\x00\x00\x01x", fault(protocol, 0)},
		{"\x00\x00\x01\x06\x01\x00\x00\x00\x01x", fault(protocol, 0)},
		// Too few octets for what must stand there.
		{"\x00\x00\x00\x00\x08\x00\x00\x00\x01", fault(size, 0)},
		{"\x00\x00\x00\x01\x08\x00\x00\x00\x01", fault(size, 0)},
		{"\x00\x00\x04\x01\x20\x00\x00\x00\x01\x00\x00\x00\x00", fault(size, 0)},
		{"\x00\x00\x05\x01\x28\x00\x00\x00\x01\x00\x00\x00\x00\x00", fault(size, 0)},
		{"\x00\x00\x03\x05\x00\x00\x00\x00\x01\x00\x00\x00", fault(size, 0)},
		{"\x00\x00\x04\x05\x08\x00\x00\x00\x01\x00\x00\x00\x00", fault(size, 0)},
		{"\x00\x00\x07\x07\x00\x00\x00\x00\x00\x00\x00\x00\x00\x00\x00\x00", fault(size, 0)},
		{"\x00\x00\x00\x05\x00\x00\x00\x00\x01", fault(size, 0)},
		// That is ahead of what a first octet says.
		{"\x00\x00\x05\x01\x28\x00\x00\x00\x01\xff\x00\x00\x00\x00", fault(size, 0)},
		{"\x00\x00\x04\x05\x08\x00\x00\x00\x01\xff\x00\x00\x00", fault(size, 0)},
		// Others than just so many.
		{"\x00\x00\x04\x02\x00\x00\x00\x00\x03\x00\x00\x00\x00", fault(size, 3)},
		{"\x00\x00\x06\x02\x00\x00\x00\x00\x03\x00\x00\x00\x00\x00\x00", fault(size, 3)},
		{"\x00\x00\x00\x02\x00\xff\xff\xff\xff", fault(size, api.MostStream)},
		{"\x00\x00\x03\x03\x00\x00\x00\x00\x03\x00\x00\x00", fault(size, 0)},
		{"\x00\x00\x05\x03\x00\x00\x00\x00\x03\x00\x00\x00\x00\x00", fault(size, 0)},
		{"\x00\x00\x05\x04\x00\x00\x00\x00\x00\x00\x01\x00\x00\x00", fault(size, 0)},
		{"\x00\x00\x07\x04\x00\x00\x00\x00\x00\x00\x01\x00\x00\x00\x00\x00", fault(size, 0)},
		{"\x00\x00\x06\x04\x01\x00\x00\x00\x00\x00\x01\x00\x00\x00\x00", fault(size, 0)},
		{"\x00\x00\x07\x06\x00\x00\x00\x00\x001234567", fault(size, 0)},
		{"\x00\x00\x09\x06\x01\x00\x00\x00\x00123456789", fault(size, 0)},
		{"\x00\x00\x03\x08\x00\x00\x00\x00\x03\x00\x00\x00", fault(size, 0)},
		{"\x00\x00\x05\x08\x00\x00\x00\x00\x03\x00\x00\x00\x00\x00", fault(size, 0)},
		{"\x00\x00\x05\x08\x00\x00\x00\x00\x00\x00\x00\x00\x01\x00", fault(size, 0)},
		// A first octet above how many are left.
		{"\x00\x00\x01\x00\x08\x00\x00\x00\x01\x01", fault(protocol, 0)},
		{"\x00\x00\x03\x00\x08\x00\x00\x00\x01\x03ab", fault(protocol, 0)},
		{"\x00\x00\x03\x00\x08\x00\x00\x00\x01\xffab", fault(protocol, 0)},
		{"\x00\x00\x03\x01\x08\x00\x00\x00\x01\x03ab", fault(protocol, 0)},
		{"\x00\x00\x08\x01\x28\x00\x00\x00\x01\x03\x00\x00\x00\x00\x00ab", fault(protocol, 0)},
		{"\x00\x00\x06\x01\x28\x00\x00\x00\x01\x01\x00\x00\x00\x00\x00", fault(protocol, 0)},
		{"\x00\x00\x07\x05\x08\x00\x00\x00\x01\x03\x00\x00\x00\x02ab", fault(protocol, 0)},
		{"\x00\x00\x05\x05\x08\x00\x00\x00\x01\x01\x00\x00\x00\x02", fault(protocol, 0)},
		// Numbers that may not be 0, the highest bit being nothing.
		{"\x00\x00\x04\x05\x04\x00\x00\x00\x01\x00\x00\x00\x00", fault(protocol, 0)},
		{"\x00\x00\x04\x05\x04\x00\x00\x00\x01\x80\x00\x00\x00", fault(protocol, 0)},
		{"\x00\x00\x05\x05\x08\x00\x00\x00\x01\x00\x00\x00\x00\x00", fault(protocol, 0)},
		{"\x00\x00\x04\x08\x00\x00\x00\x00\x00\x00\x00\x00\x00", fault(protocol, 0)},
		{"\x00\x00\x04\x08\x00\x00\x00\x00\x00\x80\x00\x00\x00", fault(protocol, 0)},
		{"\x00\x00\x04\x08\x00\x00\x00\x00\x03\x00\x00\x00\x00", fault(protocol, 3)},
		{"\x00\x00\x04\x08\x00\x80\x00\x00\x03\x80\x00\x00\x00", fault(protocol, 3)},
	} {
		for n := api.FrameHead; n < len(x.b); n++ {
			tellsNothing(t, fed(t, x.b[:n]), n)
		}
		p := fed(t, x.b+head(1)+"~")
		if x.want.Stream == 0 {
			tellsFault(t, p, x.want, 0)
			isDone(t, p)
			continue
		}
		tellsFault(t, p, x.want, 10)
		tells(t, p, api.Frame{Kind: api.Data, Stream: 1, Payload: []byte("~")}, 0)
		feeds(t, p, x.b+x.b)
		tellsFault(t, p, x.want, len(x.b))
		tellsFault(t, p, x.want, 0)
		tellsNothing(t, p, 0)
	}
}

// Flags that the kind does not have, bits that are nothing, and what the
// octets of padding are do not matter.
func TestWhatDoesNotMatter(t *testing.T) {
	for _, x := range []struct {
		b    string
		want api.Frame
	}{
		{"\x00\x00\x02\x00\xf6\x80\x00\x00\x01xy", api.Frame{Kind: api.Data, Stream: 1, Payload: []byte("xy")}},
		{"\x00\x00\x02\x00\xff\x80\x00\x00\x01\x01x", api.Frame{Kind: api.Data, Stream: 1, End: true, Pad: 2}},
		{"\x00\x00\x04\x00\x08\x00\x00\x00\x01\x02xyz", api.Frame{Kind: api.Data, Stream: 1, Pad: 3, Payload: []byte("x")}},
		{"\x00\x00\x01\x01\xd2\xff\xff\xff\xffx", api.Frame{Kind: api.Headers, Stream: api.MostStream, Payload: []byte("x")}},
		{"\x00\x00\x08\x01\xff\x80\x00\x00\x02\x01\x00\x00\x00\x00\x00xy", api.Frame{Kind: api.Headers, Stream: 2, End: true, EndHeaders: true, Prio: true, Pad: 2, Weight: 1, Payload: []byte("x")}},
		{"\x00\x00\x05\x02\xff\x80\x00\x00\x01\x80\x00\x00\x00\x00", api.Frame{Kind: api.Priority, Stream: 1, Exclusive: true, Weight: 1}},
		{"\x00\x00\x04\x03\xff\x80\x00\x00\x01\x80\x00\x00\x00", api.Frame{Kind: api.RstStream, Stream: 1, Code: 1 << 31}},
		{"\x00\x00\x06\x04\xfe\x80\x00\x00\x00\x80\x00\x80\x00\x00\x00", api.Frame{Kind: api.Settings, List: []api.Setting{{ID: 1 << 15, Value: 1 << 31}}}},
		{"\x00\x00\x00\x04\xff\x80\x00\x00\x00", api.Frame{Kind: api.Settings, Ack: true}},
		{"\x00\x00\x05\x05\xf3\x80\x00\x00\x01\x80\x00\x00\x01x", api.Frame{Kind: api.PushPromise, Stream: 1, Last: 1, Payload: []byte("x")}},
		{"\x00\x00\x07\x05\xff\x80\x00\x00\x01\x02\x80\x00\x00\x01xy", api.Frame{Kind: api.PushPromise, Stream: 1, EndHeaders: true, Pad: 3, Last: 1}},
		{"\x00\x00\x08\x06\xfe\x80\x00\x00\x00abcdefgh", api.Frame{Kind: api.Ping, Payload: []byte("abcdefgh")}},
		{"\x00\x00\x08\x06\xff\x80\x00\x00\x00abcdefgh", api.Frame{Kind: api.Ping, Ack: true, Payload: []byte("abcdefgh")}},
		{"\x00\x00\x09\x07\xff\x80\x00\x00\x00\x80\x00\x00\x01\x80\x00\x00\x02x", api.Frame{Kind: api.Goaway, Last: 1, Code: 1<<31 + 2, Payload: []byte("x")}},
		{"\x00\x00\x04\x08\xff\x80\x00\x00\x00\x80\x00\x00\x01", api.Frame{Kind: api.WindowUpdate, Inc: 1}},
		{"\x00\x00\x04\x08\xff\x80\x00\x00\x05\xff\xff\xff\xff", api.Frame{Kind: api.WindowUpdate, Stream: 5, Inc: api.MostWindow}},
		{"\x00\x00\x02\x09\xfb\x80\x00\x00\x01xy", api.Frame{Kind: api.Continuation, Stream: 1, Payload: []byte("xy")}},
		{"\x00\x00\x02\x09\xff\x80\x00\x00\x01xy", api.Frame{Kind: api.Continuation, Stream: 1, EndHeaders: true, Payload: []byte("xy")}},
		{"\x00\x00\x02\x0a\xff\x80\x00\x00\x00xy", api.Frame{Kind: 10, Flags: 255, Payload: []byte("xy")}},
		{"\x00\x00\x02\xff\x08\x80\x00\x00\x01\x09y", api.Frame{Kind: 255, Stream: 1, Flags: 8, Payload: []byte("\x09y")}},
	} {
		tells(t, fed(t, x.b), x.want, 0)
		p := fed(t, x.b)
		f, _, _ := p.Next()
		b, e := frame.Write(f)
		if e != api.OK || len(b) != len(x.b) {
			t.Errorf("Write of what %x is: %x, %v", x.b, b, e)
		}
		tells(t, fed(t, string(b)), x.want, 0)
	}
}

// R1: what is handed in is its owner's, and what is told the caller's.
func TestParserKeepsToItsOwnMemory(t *testing.T) {
	whole := []byte(head(3) + "abc" + head(2) + "de...")
	p := frame.New(0)
	if n := p.Feed(whole[:23]); n != 23 || string(whole[23:]) != "..." {
		t.Errorf("took %d, %q", n, whole)
	}
	clear(whole)
	first, _, _ := p.Next()
	for i := range first.Payload[:cap(first.Payload)] {
		first.Payload[:cap(first.Payload)][i] = '!'
	}
	second, _, _ := p.Next()
	if string(second.Payload) != "de" {
		t.Errorf("what was told shares what is held: %q", second.Payload)
	}
	for range 100 {
		feeds(t, p, head(7)+"zzzzzzz")
		p.Next()
	}
	if string(first.Payload) != "!!!" || string(second.Payload) != "de" {
		t.Errorf("what was told is written over: %q, %q", first.Payload, second.Payload)
	}
	list := "\x00\x00\x06\x04\x00\x00\x00\x00\x00\x00\x01\x00\x00\x00\x02"
	p = fed(t, list+list)
	f, _, _ := p.Next()
	clear(f.List)
	tells(t, p, api.Frame{Kind: api.Settings, List: []api.Setting{{ID: 1, Value: 2}}}, 0)
}

// R3: two parsers have nothing to do with each other.
func TestParsersAreApart(t *testing.T) {
	a, b := frame.New(0), frame.New(20000)
	feeds(t, a, head(3)+"ab")
	feeds(t, b, head(16385))
	a.SetMax(30000)
	tellsNothing(t, b, 9)
	b.SetMax(0)
	tellsFault(t, b, fault(api.FrameSizeError, 0), 0)
	feeds(t, a, "c")
	tells(t, a, api.Frame{Kind: api.Data, Stream: 1, Payload: []byte("abc")}, 0)
	isDone(t, b)
}

// Whatever the pieces, all frames are told in order.
func TestFramesInPieces(t *testing.T) {
	var all []byte
	var want []api.Frame
	for _, x := range examples {
		if len(x.b) < 20000 {
			all = append(all, x.b...)
			want = append(want, x.f)
		}
	}
	r := rand.New(rand.NewSource(1))
	for i := range 200 {
		most := []int{1, 2, 9, 10, 100, len(all)}[i%6]
		p, left, got := frame.New(0), all, 0
		for len(left) > 0 {
			n := min(1+r.Intn(most), len(left))
			if took := p.Feed(left[:n]); took != n {
				t.Fatalf("took %d of %d", took, n)
			}
			left = left[n:]
			for {
				f, x, ok := p.Next()
				if !ok {
					break
				}
				if x.Is || got >= len(want) || !same(f, want[got]) {
					t.Fatalf("%d: %+v, %v", got, f, x)
				}
				got++
			}
		}
		if got != len(want) || p.Size() != 0 {
			t.Fatalf("%d of %d, Size %d", got, len(want), p.Size())
		}
	}
}

// Many small frames are told as soon as few, though all are held at once.
func TestManySmallFrames(t *testing.T) {
	const many = 1 << 20
	p := frame.New(api.MostFrame)
	feeds(t, p, strings.Repeat(head(1)+"~", many))
	for i := range many {
		if f, x, ok := p.Next(); len(f.Payload) != 1 || x.Is || !ok || p.Size() != (many-1-i)*10 {
			t.Fatalf("%d: %v, %v, %v, Size %d", i, f, x, ok, p.Size())
		}
	}
	tellsNothing(t, p, 0)
}

package frame_test

import (
	"bytes"
	"reflect"
	"strings"
	"testing"

	"flume/api"
	"flume/frame"
)

// like is a frame with which nothing is told by whether a list is nil.
func like(f api.Frame) api.Frame {
	if len(f.Payload) == 0 {
		f.Payload = nil
	}
	if len(f.List) == 0 {
		f.List = nil
	}
	return f
}

func same(a, b api.Frame) bool {
	return reflect.DeepEqual(like(a), like(b))
}

func fault(code api.Code, stream int) api.Fault {
	return api.Fault{Is: true, Code: code, Stream: stream}
}

// feeds gives a parser octets, all of which it has to take.
func feeds(t *testing.T, p *frame.Parser, b string) {
	t.Helper()
	was := p.Size()
	if n := p.Feed([]byte(b)); n != len(b) || p.Size() != was+len(b) {
		t.Errorf("Feed of %d octets: %d; Size was %d, is %d", len(b), n, was, p.Size())
	}
}

// fed is a new parser with these octets.
func fed(t *testing.T, b string) *frame.Parser {
	t.Helper()
	p := frame.New(api.MostFrame)
	feeds(t, p, b)
	return p
}

// tells asks for a frame, behind which so many octets are held.
func tells(t *testing.T, p *frame.Parser, want api.Frame, left int) {
	t.Helper()
	if f, x, ok := p.Next(); !same(f, want) || x != (api.Fault{}) || !ok || p.Size() != left {
		t.Errorf("Next: %+v, %v, %v, Size %d; want %+v, Size %d", f, x, ok, p.Size(), want, left)
	}
}

// tellsFault asks for a fault.
func tellsFault(t *testing.T, p *frame.Parser, want api.Fault, left int) {
	t.Helper()
	if f, x, ok := p.Next(); !same(f, api.Frame{}) || x != want || !ok || p.Size() != left {
		t.Errorf("Next: %+v, %v, %v, Size %d; want %v, Size %d", f, x, ok, p.Size(), want, left)
	}
}

// tellsNothing asks, more than once, for nothing.
func tellsNothing(t *testing.T, p *frame.Parser, left int) {
	t.Helper()
	for range 2 {
		if f, x, ok := p.Next(); !same(f, api.Frame{}) || x != (api.Fault{}) || ok || p.Size() != left {
			t.Errorf("Next: %+v, %v, %v, Size %d; want nothing, Size %d", f, x, ok, p.Size(), left)
		}
	}
}

// isDone asks whether a parser is.
func isDone(t *testing.T, p *frame.Parser) {
	t.Helper()
	tellsNothing(t, p, 0)
	for _, n := range []int{0, api.MinFrame, api.MostFrame} {
		p.SetMax(n)
		if took := p.Feed([]byte("\x00\x00\x00\x04\x00\x00\x00\x00\x00")); took != 0 {
			t.Errorf("a parser that is done took %d octets", took)
		}
		tellsNothing(t, p, 0)
	}
}

// examples are frames and their octets.
var examples = []struct {
	f api.Frame
	b string
}{
	{api.Frame{Kind: api.Data, Stream: 1}, "\x00\x00\x00\x00\x00\x00\x00\x00\x01"},
	{api.Frame{Kind: api.Data, Stream: 0x01020304, Payload: []byte("abc")}, "\x00\x00\x03\x00\x00\x01\x02\x03\x04abc"},
	{api.Frame{Kind: api.Data, Stream: api.MostStream, End: true}, "\x00\x00\x00\x00\x01\x7f\xff\xff\xff"},
	{api.Frame{Kind: api.Data, Stream: 1, End: true, Pad: 3, Payload: []byte("ab")}, "\x00\x00\x05\x00\x09\x00\x00\x00\x01\x02ab\x00\x00"},
	{api.Frame{Kind: api.Data, Stream: 2, Pad: 1}, "\x00\x00\x01\x00\x08\x00\x00\x00\x02\x00"},
	{api.Frame{Kind: api.Data, Stream: 2, Pad: 1, Payload: []byte("\x00")}, "\x00\x00\x02\x00\x08\x00\x00\x00\x02\x00\x00"},
	{api.Frame{Kind: api.Data, Stream: 2, Pad: 2}, "\x00\x00\x02\x00\x08\x00\x00\x00\x02\x01\x00"},
	{api.Frame{Kind: api.Data, Stream: 2, Pad: 256, Payload: []byte("x")}, "\x00\x01\x01\x00\x08\x00\x00\x00\x02\xffx" + strings.Repeat("\x00", 255)},
	{api.Frame{Kind: api.Data, Stream: 7, Payload: bytes.Repeat([]byte("~"), 0x010203)}, "\x01\x02\x03\x00\x00\x00\x00\x00\x07" + strings.Repeat("~", 0x010203)},

	{api.Frame{Kind: api.Headers, Stream: 3}, "\x00\x00\x00\x01\x00\x00\x00\x00\x03"},
	{api.Frame{Kind: api.Headers, Stream: 3, End: true, Payload: []byte("\x82")}, "\x00\x00\x01\x01\x01\x00\x00\x00\x03\x82"},
	{api.Frame{Kind: api.Headers, Stream: 3, EndHeaders: true}, "\x00\x00\x00\x01\x04\x00\x00\x00\x03"},
	{api.Frame{Kind: api.Headers, Stream: 3, Pad: 2, Payload: []byte("\x82")}, "\x00\x00\x03\x01\x08\x00\x00\x00\x03\x01\x82\x00"},
	{api.Frame{Kind: api.Headers, Stream: 3, Prio: true, Weight: 1}, "\x00\x00\x05\x01\x20\x00\x00\x00\x03\x00\x00\x00\x00\x00"},
	{api.Frame{Kind: api.Headers, Stream: 3, Prio: true, Depend: api.MostStream, Weight: 256, Payload: []byte("\x82")}, "\x00\x00\x06\x01\x20\x00\x00\x00\x03\x7f\xff\xff\xff\xff\x82"},
	{api.Frame{Kind: api.Headers, Stream: 3, Prio: true, Exclusive: true, Weight: 2}, "\x00\x00\x05\x01\x20\x00\x00\x00\x03\x80\x00\x00\x00\x01"},
	{api.Frame{Kind: api.Headers, Stream: 3, Prio: true, Depend: 3, Weight: 2}, "\x00\x00\x05\x01\x20\x00\x00\x00\x03\x00\x00\x00\x03\x01"},
	{
		api.Frame{Kind: api.Headers, Stream: 5, End: true, EndHeaders: true, Prio: true, Pad: 4, Depend: 0x01020304, Exclusive: true, Weight: 17, Payload: []byte("xy")},
		"\x00\x00\x0b\x01\x2d\x00\x00\x00\x05\x03\x81\x02\x03\x04\x10xy\x00\x00\x00",
	},
	{api.Frame{Kind: api.Headers, Stream: 5, Prio: true, Pad: 1, Weight: 17}, "\x00\x00\x06\x01\x28\x00\x00\x00\x05\x00\x00\x00\x00\x00\x10"},
	{api.Frame{Kind: api.Headers, Stream: 5, Prio: true, Pad: 3, Weight: 17}, "\x00\x00\x08\x01\x28\x00\x00\x00\x05\x02\x00\x00\x00\x00\x10\x00\x00"},

	{api.Frame{Kind: api.Priority, Stream: 1, Weight: 1}, "\x00\x00\x05\x02\x00\x00\x00\x00\x01\x00\x00\x00\x00\x00"},
	{api.Frame{Kind: api.Priority, Stream: 9, Depend: api.MostStream, Exclusive: true, Weight: 256}, "\x00\x00\x05\x02\x00\x00\x00\x00\x09\xff\xff\xff\xff\xff"},
	{api.Frame{Kind: api.Priority, Stream: 9, Depend: 0x01020304, Weight: 6}, "\x00\x00\x05\x02\x00\x00\x00\x00\x09\x01\x02\x03\x04\x05"},

	{api.Frame{Kind: api.RstStream, Stream: 1}, "\x00\x00\x04\x03\x00\x00\x00\x00\x01\x00\x00\x00\x00"},
	{api.Frame{Kind: api.RstStream, Stream: 1, Code: api.Cancel}, "\x00\x00\x04\x03\x00\x00\x00\x00\x01\x00\x00\x00\x08"},
	{api.Frame{Kind: api.RstStream, Stream: 1, Code: 0x81020304}, "\x00\x00\x04\x03\x00\x00\x00\x00\x01\x81\x02\x03\x04"},
	{api.Frame{Kind: api.RstStream, Stream: 1, Code: 1<<32 - 1}, "\x00\x00\x04\x03\x00\x00\x00\x00\x01\xff\xff\xff\xff"},

	{api.Frame{Kind: api.Settings}, "\x00\x00\x00\x04\x00\x00\x00\x00\x00"},
	{api.Frame{Kind: api.Settings, Ack: true}, "\x00\x00\x00\x04\x01\x00\x00\x00\x00"},
	{api.Frame{Kind: api.Settings, List: []api.Setting{{ID: api.InitialWindowSize, Value: 65536}}}, "\x00\x00\x06\x04\x00\x00\x00\x00\x00\x00\x04\x00\x01\x00\x00"},
	{
		api.Frame{Kind: api.Settings, List: []api.Setting{{ID: 0x1234, Value: 0x85060708}, {}, {ID: 65535, Value: 1<<32 - 1}, {}}},
		"\x00\x00\x18\x04\x00\x00\x00\x00\x00\x12\x34\x85\x06\x07\x08\x00\x00\x00\x00\x00\x00\xff\xff\xff\xff\xff\xff\x00\x00\x00\x00\x00\x00",
	},

	{api.Frame{Kind: api.PushPromise, Stream: 1, Last: 1}, "\x00\x00\x04\x05\x00\x00\x00\x00\x01\x00\x00\x00\x01"},
	{api.Frame{Kind: api.PushPromise, Stream: 1, EndHeaders: true, Last: api.MostStream, Payload: []byte("x")}, "\x00\x00\x05\x05\x04\x00\x00\x00\x01\x7f\xff\xff\xffx"},
	{api.Frame{Kind: api.PushPromise, Stream: 1, Pad: 3, Last: 0x01020304, Payload: []byte("x")}, "\x00\x00\x08\x05\x08\x00\x00\x00\x01\x02\x01\x02\x03\x04x\x00\x00"},
	{api.Frame{Kind: api.PushPromise, Stream: 1, Pad: 1, Last: 2}, "\x00\x00\x05\x05\x08\x00\x00\x00\x01\x00\x00\x00\x00\x02"},

	{api.Frame{Kind: api.Ping, Payload: []byte("abcdefgh")}, "\x00\x00\x08\x06\x00\x00\x00\x00\x00abcdefgh"},
	{api.Frame{Kind: api.Ping, Ack: true, Payload: []byte{1, 2, 3, 4, 5, 6, 7, 8}}, "\x00\x00\x08\x06\x01\x00\x00\x00\x00\x01\x02\x03\x04\x05\x06\x07\x08"},

	{api.Frame{Kind: api.Goaway}, "\x00\x00\x08\x07\x00\x00\x00\x00\x00\x00\x00\x00\x00\x00\x00\x00\x00"},
	{api.Frame{Kind: api.Goaway, Last: api.MostStream, Code: 1<<32 - 1}, "\x00\x00\x08\x07\x00\x00\x00\x00\x00\x7f\xff\xff\xff\xff\xff\xff\xff"},
	{api.Frame{Kind: api.Goaway, Last: 0x01020304, Code: 0x05060708, Payload: []byte("why")}, "\x00\x00\x0b\x07\x00\x00\x00\x00\x00\x01\x02\x03\x04\x05\x06\x07\x08why"},

	{api.Frame{Kind: api.WindowUpdate, Inc: 1}, "\x00\x00\x04\x08\x00\x00\x00\x00\x00\x00\x00\x00\x01"},
	{api.Frame{Kind: api.WindowUpdate, Stream: 3, Inc: api.MostWindow}, "\x00\x00\x04\x08\x00\x00\x00\x00\x03\x7f\xff\xff\xff"},
	{api.Frame{Kind: api.WindowUpdate, Stream: 3, Inc: 0x01020304}, "\x00\x00\x04\x08\x00\x00\x00\x00\x03\x01\x02\x03\x04"},

	{api.Frame{Kind: api.Continuation, Stream: 1}, "\x00\x00\x00\x09\x00\x00\x00\x00\x01"},
	{api.Frame{Kind: api.Continuation, Stream: 1, EndHeaders: true, Payload: []byte("xy")}, "\x00\x00\x02\x09\x04\x00\x00\x00\x01xy"},

	{api.Frame{Kind: 10}, "\x00\x00\x00\x0a\x00\x00\x00\x00\x00"},
	{api.Frame{Kind: 10, Stream: 1, Flags: 1, Payload: []byte("x")}, "\x00\x00\x01\x0a\x01\x00\x00\x00\x01x"},
	{api.Frame{Kind: 77, Flags: 255, Payload: []byte("?")}, "\x00\x00\x01\x4d\xff\x00\x00\x00\x00?"},
	{api.Frame{Kind: 255, Stream: api.MostStream, Flags: 0x2d, Payload: []byte("\xff\xff\xff\xff\xff\xff")}, "\x00\x00\x06\xff\x2d\x7f\xff\xff\xff\xff\xff\xff\xff\xff\xff"},
}

// What is written is told as it was, and what is told can be written.
func TestExamplesBothWays(t *testing.T) {
	for _, x := range examples {
		if b, e := frame.Write(x.f); string(b) != x.b || e != api.OK {
			t.Errorf("Write of %.200v: %.40x, %v; want %.40x", x.f, b, e, x.b)
		}
		tells(t, fed(t, x.b), x.f, 0)
		// What stands behind is not its own.
		p := fed(t, x.b+"\xff\xff")
		tells(t, p, x.f, 2)
		tellsNothing(t, p, 2)
	}
}

func TestOpening(t *testing.T) {
	for i := range api.Preface {
		if e := frame.Opening([]byte(api.Preface[:i])); e != api.ErrMore {
			t.Errorf("of %d octets: %v", i, e)
		}
		// What stands behind the slice's end does not count.
		whole := []byte(api.Preface)
		if e := frame.Opening(whole[:i]); e != api.ErrMore {
			t.Errorf("of %d octets of more: %v", i, e)
		}
		for _, behind := range []string{"", api.Preface[i+1:], api.Preface} {
			whole = []byte(api.Preface[:i] + "\x00" + behind)
			if e := frame.Opening(whole); e != api.ErrForm {
				t.Errorf("of %q: %v", whole, e)
			}
		}
	}
	for _, behind := range []string{"", "x", "\x00\x00\x00\x04", api.Preface} {
		b := []byte(api.Preface + behind)
		if e := frame.Opening(b); e != api.OK || string(b) != api.Preface+behind {
			t.Errorf("of the preface and %q: %v, %q", behind, e, b)
		}
	}
	for b, want := range map[string]api.Errno{
		"": api.ErrMore, "P": api.ErrMore, "p": api.ErrForm, "PRI * HTTP/2.0\r\n\r\n": api.ErrMore,
		"GET": api.ErrForm, "GET / HTTP/1.1\r\nhost: a.example\r\n\r\n": api.ErrForm, "PRI * HTTP/2.0\n": api.ErrForm,
		" " + api.Preface: api.ErrForm, "PRI * HTTP/2.0\r\n\r\nSM\r\n\rx": api.ErrForm,
	} {
		if e := frame.Opening([]byte(b)); e != want {
			t.Errorf("of %q: %v", b, e)
		}
	}
	if e := frame.Opening(nil); e != api.ErrMore {
		t.Errorf("of nil: %v", e)
	}
}

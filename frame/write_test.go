package frame_test

import (
	"bytes"
	"math"
	"strings"
	"testing"

	"flume/api"
	"flume/frame"
)

// refuses asks Write for an error alone.
func refuses(t *testing.T, f api.Frame, want api.Errno) {
	t.Helper()
	if b, e := frame.Write(f); b != nil || e != want {
		t.Errorf("Write of %.200v: %.40x, %v; want %v", f, b, e, want)
	}
}

// rightFrames is a frame of each kind, with as little as may be.
func rightFrames() []api.Frame {
	return []api.Frame{
		{Kind: api.Data, Stream: 1},
		{Kind: api.Headers, Stream: 1},
		{Kind: api.Headers, Stream: 1, Prio: true, Weight: 1},
		{Kind: api.Priority, Stream: 1, Weight: 1},
		{Kind: api.RstStream, Stream: 1},
		{Kind: api.Settings},
		{Kind: api.PushPromise, Stream: 1, Last: 2},
		{Kind: api.Ping, Payload: make([]byte, 8)},
		{Kind: api.Goaway},
		{Kind: api.WindowUpdate, Inc: 1},
		{Kind: api.WindowUpdate, Stream: 1, Inc: 1},
		{Kind: api.Continuation, Stream: 1},
		{Kind: 10},
		{Kind: 10, Stream: 1},
		{Kind: 255, Stream: 1},
	}
}

func TestWriteOfRightFrames(t *testing.T) {
	for _, f := range rightFrames() {
		if b, e := frame.Write(f); e != api.OK || len(b) < api.FrameHead {
			t.Errorf("%+v: %x, %v", f, b, e)
		}
	}
}

// fillers fill something of a frame, by its name.
var fillers = map[string]func(*api.Frame){
	"End":        func(f *api.Frame) { f.End = true },
	"EndHeaders": func(f *api.Frame) { f.EndHeaders = true },
	"Ack":        func(f *api.Frame) { f.Ack = true },
	"Prio":       func(f *api.Frame) { f.Prio, f.Weight = true, 1 },
	"Payload":    func(f *api.Frame) { f.Payload = append(f.Payload, make([]byte, 8)...)[:8] },
	"Flags":      func(f *api.Frame) { f.Flags = 1 },
	"Pad":        func(f *api.Frame) { f.Pad = 1 },
	"Depend":     func(f *api.Frame) { f.Depend = 1 },
	"Exclusive":  func(f *api.Frame) { f.Exclusive = true },
	"Weight":     func(f *api.Frame) { f.Weight = 1 },
	"Code":       func(f *api.Frame) { f.Code = 1 },
	"List":       func(f *api.Frame) { f.List = make([]api.Setting, 1) },
	"Last":       func(f *api.Frame) { f.Last = 1 },
	"Inc":        func(f *api.Frame) { f.Inc = 1 },
}

// whatItHas is the column of the chapter's table.
func whatItHas(f api.Frame) string {
	switch f.Kind {
	case api.Data:
		return "End Pad Payload"
	case api.Headers:
		if f.Prio {
			return "End EndHeaders Pad Prio Depend Exclusive Weight Payload"
		}
		return "End EndHeaders Pad Prio Payload"
	case api.Priority:
		return "Depend Exclusive Weight"
	case api.RstStream:
		return "Code"
	case api.Settings:
		return "Ack List"
	case api.PushPromise:
		return "EndHeaders Pad Last Payload"
	case api.Ping:
		return "Ack Payload"
	case api.Goaway:
		return "Last Code Payload"
	case api.WindowUpdate:
		return "Inc"
	case api.Continuation:
		return "EndHeaders Payload"
	default:
		return "Flags Payload"
	}
}

func TestWriteOfWhatAKindHasNot(t *testing.T) {
	for _, right := range rightFrames() {
		for name, fill := range fillers {
			f := right
			fill(&f)
			want := api.ErrArg
			for _, has := range strings.Fields(whatItHas(right)) {
				if has == name {
					want = api.OK
				}
			}
			if _, e := frame.Write(f); e != want {
				t.Errorf("%+v with %s: %v, want %v", right, name, e, want)
			}
		}
	}
}

// A single octet is too much where none may be.
func TestWriteOfPayloadsOfOneOctet(t *testing.T) {
	for _, f := range rightFrames() {
		want := api.ErrArg
		if strings.Contains(whatItHas(f), "Payload") && f.Kind != api.Ping {
			want = api.OK
		}
		f.Payload = []byte{0}
		if _, e := frame.Write(f); e != want {
			t.Errorf("%+v: %v, want %v", f, e, want)
		}
	}
}

// Prio alone is told apart from the Weight that it asks for.
func TestWriteOfPrioOfOtherKinds(t *testing.T) {
	for _, f := range rightFrames() {
		if f.Kind == api.Headers {
			continue
		}
		f.Prio = true
		refuses(t, f, api.ErrArg)
	}
	refuses(t, api.Frame{Kind: api.Headers, Stream: 1, Prio: true}, api.ErrArg)
	refuses(t, api.Frame{Kind: api.Headers, Stream: 1, Depend: 1, Weight: 1}, api.ErrArg)
	refuses(t, api.Frame{Kind: api.Headers, Stream: 1, Exclusive: true, Weight: 1}, api.ErrArg)
}

// Empty lists are none, be they nil or not.
func TestWriteOfEmptyLists(t *testing.T) {
	for _, f := range rightFrames() {
		want, _ := frame.Write(f)
		f.List = []api.Setting{}
		if f.Kind != api.Ping {
			f.Payload = []byte{}
		}
		if b, e := frame.Write(f); !bytes.Equal(b, want) || e != api.OK {
			t.Errorf("%+v: %x, %v; want %x", f, b, e, want)
		}
	}
	f := api.Frame{Kind: api.Settings, Ack: true, List: []api.Setting{}}
	if b, e := frame.Write(f); string(b) != "\x00\x00\x00\x04\x01\x00\x00\x00\x00" || e != api.OK {
		t.Errorf("%x, %v", b, e)
	}
}

func TestWriteOfWrongKindsAndStreams(t *testing.T) {
	for _, kind := range []int{math.MinInt, -256, -246, -1, 256, 257, 1 << 32, math.MaxInt} {
		for _, stream := range []int{-1, 0, 1} {
			refuses(t, api.Frame{Kind: kind, Stream: stream}, api.ErrArg)
		}
	}
	for _, f := range rightFrames() {
		for _, stream := range []int{math.MinInt, -1 << 31, -1, api.MostStream + 1, 1<<32 + 1, 1 << 32, math.MaxInt} {
			f.Stream = stream
			refuses(t, f, api.ErrArg)
		}
		wantOf0, wantOfOthers := api.OK, api.OK
		switch f.Kind {
		case api.Data, api.Headers, api.Priority, api.RstStream, api.PushPromise, api.Continuation:
			wantOf0 = api.ErrArg
		case api.Settings, api.Ping, api.Goaway:
			wantOfOthers = api.ErrArg
		}
		for stream, want := range map[int]api.Errno{0: wantOf0, 1: wantOfOthers, 2: wantOfOthers, api.MostStream: wantOfOthers} {
			f.Stream = stream
			if _, e := frame.Write(f); e != want {
				t.Errorf("%+v: %v, want %v", f, e, want)
			}
		}
	}
}

func TestWriteOfNumbersOutOfBounds(t *testing.T) {
	far := []int{math.MinInt, -1 << 31, -256, -1, math.MaxInt}
	for _, x := range []struct {
		right api.Frame
		set   func(*api.Frame, int)
		wrong []int
		ends  []int // the least and the most that may be
	}{
		{api.Frame{Kind: api.Data, Stream: 1}, func(f *api.Frame, n int) { f.Pad = n }, []int{257, 512}, []int{0, 256}},
		{api.Frame{Kind: api.Headers, Stream: 1}, func(f *api.Frame, n int) { f.Pad = n }, []int{257, 512}, []int{0, 256}},
		{api.Frame{Kind: api.PushPromise, Stream: 1, Last: 1}, func(f *api.Frame, n int) { f.Pad = n }, []int{257, 512}, []int{0, 256}},
		{api.Frame{Kind: api.Headers, Stream: 1, Prio: true, Weight: 1}, func(f *api.Frame, n int) { f.Depend = n }, []int{1 << 31, 1 << 32}, []int{0, 1<<31 - 1}},
		{api.Frame{Kind: api.Priority, Stream: 1, Weight: 1}, func(f *api.Frame, n int) { f.Depend = n }, []int{1 << 31, 1 << 32}, []int{0, 1<<31 - 1}},
		{api.Frame{Kind: api.Headers, Stream: 1, Prio: true}, func(f *api.Frame, n int) { f.Weight = n }, []int{0, 257}, []int{1, 256}},
		{api.Frame{Kind: api.Priority, Stream: 1}, func(f *api.Frame, n int) { f.Weight = n }, []int{0, 257}, []int{1, 256}},
		{api.Frame{Kind: 10}, func(f *api.Frame, n int) { f.Flags = n }, []int{256, 257}, []int{0, 255}},
		{api.Frame{Kind: api.Goaway}, func(f *api.Frame, n int) { f.Last = n }, []int{1 << 31, 1 << 32}, []int{0, 1<<31 - 1}},
		{api.Frame{Kind: api.PushPromise, Stream: 1}, func(f *api.Frame, n int) { f.Last = n }, []int{0, 1 << 31, 1 << 32}, []int{1, 1<<31 - 1}},
		{api.Frame{Kind: api.WindowUpdate}, func(f *api.Frame, n int) { f.Inc = n }, []int{0, 1 << 31, 1 << 32}, []int{1, 1<<31 - 1}},
		{api.Frame{Kind: api.WindowUpdate, Stream: 1}, func(f *api.Frame, n int) { f.Inc = n }, []int{0, 1 << 31, 1 << 32}, []int{1, 1<<31 - 1}},
		{api.Frame{Kind: api.Settings}, func(f *api.Frame, n int) { f.List = []api.Setting{{ID: n}} }, []int{65536, 65537, 1 << 32}, []int{0, 65535}},
		{api.Frame{Kind: api.Settings}, func(f *api.Frame, n int) { f.List = []api.Setting{{ID: 1}, {ID: n}, {ID: 1}} }, []int{65536}, []int{0, 65535}},
		{api.Frame{Kind: api.Settings}, func(f *api.Frame, n int) { f.List = []api.Setting{{ID: 1}, {ID: n}} }, []int{65536}, []int{0, 65535}},
		{api.Frame{Kind: api.Ping}, func(f *api.Frame, n int) { f.Payload = make([]byte, max(0, min(n, 100))) }, []int{0, 1, 7, 9, 16}, []int{8, 8}},
	} {
		for _, n := range append(x.wrong, far...) {
			f := x.right
			x.set(&f, n)
			refuses(t, f, api.ErrArg)
		}
		for _, n := range x.ends {
			f := x.right
			x.set(&f, n)
			if _, e := frame.Write(f); e != api.OK {
				t.Errorf("%+v: %v", f, e)
			}
		}
	}
	refuses(t, api.Frame{Kind: api.Settings, Ack: true, List: make([]api.Setting, 1)}, api.ErrArg)
	refuses(t, api.Frame{Kind: api.Ping, Ack: true}, api.ErrArg)
}

// The payload may have just MostFrame octets, all that stands there counted.
func TestWriteOfLongFrames(t *testing.T) {
	payload := bytes.Repeat([]byte{'~'}, api.MostFrame+1)
	for _, x := range []struct {
		f    api.Frame
		must int
	}{
		{api.Frame{Kind: api.Data, Stream: 1}, 0},
		{api.Frame{Kind: api.Data, Stream: 1, Pad: 1}, 1},
		{api.Frame{Kind: api.Data, Stream: 1, Pad: 256}, 256},
		{api.Frame{Kind: api.Headers, Stream: 1}, 0},
		{api.Frame{Kind: api.Headers, Stream: 1, Prio: true, Weight: 1}, 5},
		{api.Frame{Kind: api.Headers, Stream: 1, Prio: true, Weight: 1, Pad: 2}, 7},
		{api.Frame{Kind: api.PushPromise, Stream: 1, Last: 1}, 4},
		{api.Frame{Kind: api.PushPromise, Stream: 1, Last: 1, Pad: 3}, 7},
		{api.Frame{Kind: api.Goaway}, 8},
		{api.Frame{Kind: api.Continuation, Stream: 1}, 0},
		{api.Frame{Kind: 99}, 0},
	} {
		x.f.Payload = payload[:api.MostFrame-x.must+1]
		refuses(t, x.f, api.ErrLong)
		x.f.Payload = payload[:api.MostFrame-x.must]
		b, e := frame.Write(x.f)
		if e != api.OK || len(b) != api.FrameHead+api.MostFrame || string(b[:3]) != "\xff\xff\xff" {
			t.Errorf("kind %d, %d octets: %d, %v", x.f.Kind, len(x.f.Payload), len(b), e)
		}
	}
	// ErrArg is ahead of ErrLong.
	refuses(t, api.Frame{Kind: api.Data, Payload: payload}, api.ErrArg)
	refuses(t, api.Frame{Kind: api.Data, Stream: 1, Pad: 257, Payload: payload}, api.ErrArg)
	refuses(t, api.Frame{Kind: api.RstStream, Stream: 1, Payload: payload}, api.ErrArg)
	refuses(t, api.Frame{Kind: api.Ping, Payload: payload}, api.ErrArg)
}

// R1: what is handed in stays, the room behind it too, and is not kept.
func TestWriteKeepsToItsOwnMemory(t *testing.T) {
	for _, f := range []api.Frame{
		{Kind: api.Data, Stream: 1},
		{Kind: api.Data, Stream: 1, Pad: 9},
		{Kind: api.Headers, Stream: 1, Prio: true, Weight: 1},
		{Kind: api.Ping},
		{Kind: api.Goaway},
		{Kind: 200},
	} {
		whole := []byte("abcdefghijklmnopqrstuvwxyz")
		f.Payload = whole[:8]
		b, e := frame.Write(f)
		if string(whole) != "abcdefghijklmnopqrstuvwxyz" || e != api.OK {
			t.Errorf("%+v: %v, wrote over what it was handed: %q", f, e, whole)
		}
		was := string(b)
		clear(whole)
		if string(b) != was {
			t.Errorf("%+v: what is answered is what was handed in", f)
		}
		copy(whole, "abcdefgh")
		clear(b[:cap(b)])
		again, _ := frame.Write(f)
		if string(whole[:8]) != "abcdefgh" || string(again) != was {
			t.Errorf("%+v: what is answered shares what was handed in", f)
		}
	}
	list := []api.Setting{{ID: 1, Value: 2}, {ID: 3, Value: 4}}
	b, _ := frame.Write(api.Frame{Kind: api.Settings, List: list[:1]})
	if list[0] != (api.Setting{ID: 1, Value: 2}) || list[1] != (api.Setting{ID: 3, Value: 4}) {
		t.Errorf("wrote over the list: %v", list)
	}
	clear(list)
	if string(b) != "\x00\x00\x06\x04\x00\x00\x00\x00\x00\x00\x01\x00\x00\x00\x02" {
		t.Errorf("%x", b)
	}
}

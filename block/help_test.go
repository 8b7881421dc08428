package block_test

import (
	"bytes"
	"reflect"
	"slices"
	"testing"

	"flume/api"
	"flume/block"
)

// same tells whether two frames are alike; lists without items may be nil or
// empty.
func same(a, b api.Frame) bool {
	lists := bytes.Equal(a.Payload, b.Payload) && slices.Equal(a.List, b.List)
	a.Payload, a.List = nil, nil
	b.Payload, b.List = nil, nil
	return lists && reflect.DeepEqual(a, b)
}

// steps holds what Step answers against what is asked.
func steps(t *testing.T, a *block.Assembler, f, want api.Frame, wantOk bool, wantFault api.Fault) {
	t.Helper()
	if x, ok, wrong := a.Step(f); !same(x, want) || ok != wantOk || wrong != wantFault {
		t.Errorf("Step of %v: %v, %v, %v; want %v, %v, %v", f, x, ok, wrong, want, wantOk, wantFault)
	}
}

// tells, nothing and fails ask that Step answers a frame, nothing, or a fault
// of the connection.
func tells(t *testing.T, a *block.Assembler, f, want api.Frame) {
	t.Helper()
	steps(t, a, f, want, true, api.Fault{})
}

func nothing(t *testing.T, a *block.Assembler, f api.Frame) {
	t.Helper()
	steps(t, a, f, api.Frame{}, false, api.Fault{})
}

func fails(t *testing.T, a *block.Assembler, f api.Frame, code api.Code) {
	t.Helper()
	steps(t, a, f, api.Frame{}, false, api.Fault{Is: true, Code: code})
}

// isOpen asks for the block that is open.
func isOpen(t *testing.T, a *block.Assembler, stream, octets int) {
	t.Helper()
	if id, ok := a.Open(); id != stream || !ok || a.Len() != octets {
		t.Errorf("Open %d, %v, Len %d; want %d, true, %d", id, ok, a.Len(), stream, octets)
	}
}

// isShut asks that no block is open.
func isShut(t *testing.T, a *block.Assembler) {
	t.Helper()
	if id, ok := a.Open(); id != 0 || ok || a.Len() != 0 {
		t.Errorf("Open %d, %v, Len %d; want none", id, ok, a.Len())
	}
}

// headers and continuation are frames with a fragment.
func headers(stream int, fragment string, whole bool) api.Frame {
	return api.Frame{Kind: api.Headers, Stream: stream, EndHeaders: whole, Payload: []byte(fragment)}
}

func continuation(stream int, fragment string, whole bool) api.Frame {
	return api.Frame{Kind: api.Continuation, Stream: stream, EndHeaders: whole, Payload: []byte(fragment)}
}

// opened is an assembler of which a block is open: HEADERS of a stream, and so
// many CONTINUATION frames, without octets.
func opened(t *testing.T, most, stream, follow int) *block.Assembler {
	t.Helper()
	a := block.New(most)
	nothing(t, a, headers(stream, "", false))
	for range follow {
		nothing(t, a, continuation(stream, "", false))
	}
	return a
}

// full is a frame of a kind in which nothing is zero but what would end a
// block.
func full(kind, stream int) api.Frame {
	return api.Frame{
		Kind: kind, Stream: stream, End: true, Ack: true, Prio: true, Payload: []byte("ab"), Flags: 0x55, Pad: 7,
		Depend: 11, Exclusive: true, Weight: 256, Code: api.Cancel, Last: 13, Inc: 17,
		List: []api.Setting{{ID: api.MaxFrameSize, Value: 20000}, {ID: 9, Value: 1}},
	}
}

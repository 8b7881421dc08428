package block_test

import (
	"bytes"
	"math/rand"
	"slices"
	"testing"

	"flume/api"
	"flume/block"
	"flume/frame"
	"flume/hpack"
)

// agrees does a step behind others, and holds all that is to be seen against
// the plain model.
func agrees(t *testing.T, a *block.Assembler, most int, frames []api.Frame) {
	t.Helper()
	want := plain(most, frames)
	x, ok, wrong := a.Step(frames[len(frames)-1])
	if !same(x, want.frame) || ok != want.ok || wrong != want.fault {
		t.Fatalf("most %d, Steps %v: %v, %v, %v; want %v", most, frames, x, ok, wrong, want)
	}
	if id, isOpen := a.Open(); id != want.stream || isOpen != want.isOpen || a.Len() != want.octets {
		t.Fatalf("most %d, Steps %v: Open %d, %v, Len %d; want %v", most, frames, id, isOpen, a.Len(), want)
	}
}

// runs does all steps with one assembler.
func runs(t *testing.T, most int, frames []api.Frame) {
	t.Helper()
	a := block.New(most)
	for i := range frames {
		agrees(t, a, most, frames[:i+1])
	}
}

// fewFrames are frames that get in each other's way.
var fewFrames = []api.Frame{
	headers(1, "a", false), headers(1, "bc", true), headers(3, "", false), {Kind: api.Headers, Stream: 1, End: true, Pad: 3},
	continuation(1, "d", false), continuation(1, "", false), continuation(1, "ef", true), continuation(3, "gh", true), continuation(3, "i", false),
	{Kind: api.Data, Stream: 1, EndHeaders: true}, {Kind: api.PushPromise, Stream: 1, Last: 2, Payload: []byte("jkl")},
}

// All rows of five of these frames.
func TestAssemblerIsAsThePlainModelOnAllRowsOfFewFrames(t *testing.T) {
	const long = 5
	rows := 1
	for range long {
		rows *= len(fewFrames)
	}
	frames := make([]api.Frame, long)
	for row := range rows {
		for i := range frames {
			frames[i] = fewFrames[row%len(fewFrames)]
			row /= len(fewFrames)
		}
		for most := -1; most <= 5; most += 2 {
			runs(t, most, frames)
		}
	}
}

// someFrame is mostly one that may come, so that blocks grow long.
func someFrame(r *rand.Rand, stream, greatest int, isOpen bool) api.Frame {
	f := full(api.Continuation, stream)
	if !isOpen {
		f.Kind = api.Headers
	}
	switch r.Intn(60) {
	case 0:
		f.Kind = r.Intn(256)
	case 1:
		f.Kind = api.Data
	case 2:
		f.Stream = r.Intn(4)
	}
	f.End, f.Prio, f.Pad = r.Intn(2) == 0, r.Intn(2) == 0, r.Intn(256)
	f.EndHeaders = r.Intn(16) == 0
	f.Payload = make([]byte, r.Intn(greatest+1))
	r.Read(f.Payload)
	return f
}

func TestAssemblerIsAsThePlainModel(t *testing.T) {
	r := rand.New(rand.NewSource(1))
	for range 3000 {
		most, greatest, stream := r.Intn(60), r.Intn(4), r.Intn(4)
		a := block.New(most)
		var frames []api.Frame
		for range 80 {
			_, isOpen := a.Open()
			frames = append(frames, someFrame(r, stream, greatest, isOpen))
			agrees(t, a, most, frames)
		}
	}
}

// cut makes a block's frames, in that many pieces.
func cut(r *rand.Rand, first api.Frame, b []byte, pieces int) []api.Frame {
	ends := []int{len(b)}
	for len(ends) < pieces {
		ends = append(ends, r.Intn(len(b)+1))
	}
	slices.Sort(ends)
	frames, from := []api.Frame{}, 0
	for i, end := range ends {
		f := api.Frame{Kind: api.Continuation, Stream: first.Stream}
		if i == 0 {
			f = first
		}
		f.EndHeaders = i == pieces-1
		f.Payload = b[from:end]
		frames, from = append(frames, f), end
	}
	return frames
}

// What follows: frames that were told whole have whole blocks, and octets of a
// block are those of its fragments, in order, in however many pieces it comes.
func TestBlocksAreWholeInAnyPieces(t *testing.T) {
	r := rand.New(rand.NewSource(2))
	a := block.New(65536)
	for i := range 4000 {
		b := make([]byte, r.Intn(1<<r.Intn(17)+1))
		r.Read(b)
		first := api.Frame{Kind: api.Headers, Stream: 2*i + 1, End: r.Intn(2) == 0}
		pieces := cut(r, first, b, 1+r.Intn(33))
		for i, f := range pieces[:len(pieces)-1] {
			nothing(t, a, f)
			isOpen(t, a, first.Stream, len(octetsOf(pieces[:i+1])))
		}
		first.EndHeaders, first.Payload = true, b
		tells(t, a, pieces[len(pieces)-1], first)
		isShut(t, a)
	}
}

// Blocks of fields that go over a connection in frames, and frames between
// them, come out on the other side.
func TestFieldsThroughFrames(t *testing.T) {
	r := rand.New(rand.NewSource(3))
	writer, reader := hpack.NewEncoder(4096), hpack.NewDecoder(4096, 65536)
	parser, a := frame.New(16384), block.New(65536)
	ping := api.Frame{Kind: api.Ping, Payload: []byte("12345678")}
	for range 300 {
		list := []api.Field{{Name: ":status", Value: "200"}, {Name: "a", Value: string(bytes.Repeat([]byte("~"), r.Intn(300)))}}
		first := api.Frame{Kind: api.Headers, Stream: 1, Prio: true, Depend: 3, Weight: 9, Pad: r.Intn(9)}
		var told []api.Frame
		for _, f := range append(cut(r, first, writer.Encode(list), 1+r.Intn(33)), ping) {
			sent, e := frame.Write(f)
			if e != api.OK || parser.Feed(sent) != len(sent) {
				t.Fatalf("%v is not written: %v", f, e)
			}
			got, wrong, ok := parser.Next()
			if wrong.Is || !ok {
				t.Fatalf("%v is not read: %v", f, wrong)
			}
			if x, whole, wrong := a.Step(got); wrong.Is {
				t.Fatalf("Step of %v: %v", got, wrong)
			} else if whole {
				told = append(told, x)
			}
		}
		if len(told) != 2 || told[0].Weight != 9 || told[0].Pad != first.Pad || !same(told[1], ping) {
			t.Fatalf("told %v", told)
		}
		if back, e := reader.Decode(told[0].Payload); e != api.OK || !slices.Equal(back, list) {
			t.Fatalf("%v came as %v, %v", list, back, e)
		}
	}
}

// The same calls have the same answers: R4.
func TestSameCallsSameAnswers(t *testing.T) {
	r := rand.New(rand.NewSource(4))
	for range 200 {
		a, b := block.New(30), block.New(30)
		for range 60 {
			_, isOpen := a.Open()
			f := someFrame(r, 1, 2, isOpen)
			x, ok, wrong := a.Step(f)
			steps(t, b, f, x, ok, wrong)
		}
	}
}

func FuzzAssembler(f *testing.F) {
	f.Add(10, []byte{0x41, 0x8b, 0x0a})
	f.Add(-1, []byte{0x40, 0x88, 0x00, 0x90, 0x80})
	f.Add(40, bytes.Repeat([]byte{0x80}, 40))
	f.Fuzz(func(t *testing.T, most int, rows []byte) {
		frames := []api.Frame{headers(1, "", false)}
		for _, b := range rows[:min(len(rows), 100)] {
			// Most are CONTINUATION, so that blocks grow long.
			kinds := []int{api.Headers, api.Headers, api.Continuation, api.Continuation, api.Continuation, int(b & 15), api.Data, api.Continuation}
			x := api.Frame{Kind: kinds[b>>5], Stream: 1 + int(b>>4&1)*2, EndHeaders: b&8 != 0, Payload: make([]byte, b&7)}
			frames = append(frames, x)
		}
		runs(t, most%100, frames)
	})
}

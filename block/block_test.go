package block_test

import (
	"math"
	"reflect"
	"strings"
	"testing"

	"flume/api"
	"flume/block"
)

func TestExamples(t *testing.T) {
	a := block.New(10)
	nothing(t, a, headers(1, "a", false))
	isOpen(t, a, 1, 1)
	tells(t, a, continuation(1, "b", true), headers(1, "ab", true))
	isShut(t, a)
	nothing(t, a, headers(1, "a", false))
	fails(t, a, api.Frame{Kind: api.Data, Stream: 1}, api.ProtocolError)
}

func TestAtFirstNoneIsOpen(t *testing.T) {
	isShut(t, block.New(10))
}

func TestWholeAtOnce(t *testing.T) {
	a := block.New(10)
	for _, fragment := range []string{"", "a", "0123456789"} {
		tells(t, a, headers(5, fragment, true), headers(5, fragment, true))
		isShut(t, a)
	}
}

func TestWholeInPieces(t *testing.T) {
	a := block.New(10)
	nothing(t, a, headers(5, "ab", false))
	isOpen(t, a, 5, 2)
	nothing(t, a, continuation(5, "", false))
	isOpen(t, a, 5, 2)
	nothing(t, a, continuation(5, "cde", false))
	isOpen(t, a, 5, 5)
	tells(t, a, continuation(5, "f", true), headers(5, "abcdef", true))
	isShut(t, a)
}

// Each block begins anew: nothing of the one before it is left.
func TestBlocksBehindEachOther(t *testing.T) {
	a := block.New(4)
	for range 100 {
		nothing(t, a, headers(1, "abc", false))
		tells(t, a, continuation(1, "d", true), headers(1, "abcd", true))
		tells(t, a, headers(3, "efgh", true), headers(3, "efgh", true))
		nothing(t, a, headers(3, "", false))
		isOpen(t, a, 3, 0)
		tells(t, a, continuation(3, "", true), headers(3, "", true))
		isShut(t, a)
	}
}

// Of what is not the fragment, the frame with which a block began counts, and
// nothing of those that follow.
func TestWholeIsTheFirstFrame(t *testing.T) {
	for _, first := range []api.Frame{full(api.Headers, 7), headers(7, "ab", false)} {
		want := first
		want.EndHeaders = true
		at := first
		at.EndHeaders = true
		tells(t, block.New(10), at, want)

		a := block.New(10)
		nothing(t, a, first)
		nothing(t, a, continuation(7, "c", false))
		nothing(t, a, full(api.Continuation, 7))
		last := full(api.Continuation, 7)
		last.EndHeaders = true
		want.Payload = []byte("abcabab")
		tells(t, a, last, want)
	}
}

// Streams are not looked at, but that they are the same.
func TestAnyStream(t *testing.T) {
	for _, stream := range []int{0, 1, 2, api.MostStream, -1, math.MinInt, math.MaxInt} {
		a := block.New(10)
		nothing(t, a, headers(stream, "a", false))
		isOpen(t, a, stream, 1)
		tells(t, a, continuation(stream, "b", true), headers(stream, "ab", true))
		isShut(t, a)
	}
}

// otherKinds are all kinds but HEADERS and CONTINUATION, and some that are
// none.
func otherKinds() []int {
	kinds := []int{math.MinInt, -9, -1, math.MaxInt, 257, 265}
	for kind := range 256 {
		if kind != api.Headers && kind != api.Continuation {
			kinds = append(kinds, kind)
		}
	}
	return kinds
}

func TestOtherFramesGoThrough(t *testing.T) {
	a := block.New(1)
	for _, kind := range otherKinds() {
		for _, stream := range []int{0, 1, -1} {
			for _, f := range []api.Frame{
				{Kind: kind, Stream: stream},
				{Kind: kind, Stream: stream, EndHeaders: true},
				// Their octets are no block's, so most says nothing of them.
				full(kind, stream),
			} {
				tells(t, a, f, f)
				isShut(t, a)
			}
		}
	}
}

func TestNothingMayComeBetween(t *testing.T) {
	between := []api.Frame{
		headers(1, "", false), headers(1, "", true), headers(1, "b", false), headers(3, "", true),
		continuation(0, "b", false), continuation(0, "b", true), continuation(3, "b", true), continuation(-1, "", true), continuation(2, "", false),
		// What is too much is told behind that.
		continuation(3, "01234567890", true), headers(1, "01234567890", true),
	}
	for _, kind := range otherKinds() {
		between = append(between, api.Frame{Kind: kind}, api.Frame{Kind: kind, Stream: 1, EndHeaders: true})
	}
	for _, f := range between {
		for _, follow := range []int{0, 1, 31, 32} {
			a := opened(t, 10, 1, follow)
			isOpen(t, a, 1, 0)
			fails(t, a, f, api.ProtocolError)
			isShut(t, a)
		}
	}
}

func TestContinuationOfNothing(t *testing.T) {
	for _, f := range []api.Frame{
		continuation(1, "a", false), continuation(1, "a", true), continuation(0, "", false), continuation(0, "", true),
		// That it is too much besides is not told.
		continuation(1, "01234567890", true), full(api.Continuation, 1),
	} {
		a := block.New(10)
		fails(t, a, f, api.ProtocolError)
		isShut(t, a)

		b := block.New(10)
		tells(t, b, headers(1, "a", true), headers(1, "a", true))
		fails(t, b, f, api.ProtocolError)

		c := opened(t, 10, 1, 3)
		tells(t, c, continuation(1, "", true), headers(1, "", true))
		fails(t, c, f, api.ProtocolError)

		d := block.New(10)
		tells(t, d, api.Frame{Kind: api.PushPromise, Stream: 1, Last: 2}, api.Frame{Kind: api.PushPromise, Stream: 1, Last: 2})
		fails(t, d, f, api.ProtocolError)
	}
}

func TestMostInOneFrame(t *testing.T) {
	for _, c := range []struct{ most, octets int }{
		{math.MinInt, 0}, {-2, 0}, {-1, 0}, {0, 0}, {1, 1}, {2, 2}, {10, 10}, {16384, 16384}, {65536, 65536},
	} {
		for _, whole := range []bool{false, true} {
			fails(t, block.New(c.most), headers(1, strings.Repeat("a", c.octets+1), whole), api.EnhanceYourCalm)
		}
		a := block.New(c.most)
		fits := strings.Repeat("a", c.octets)
		tells(t, a, headers(1, fits, true), headers(1, fits, true))
		nothing(t, a, headers(3, fits, false))
		isOpen(t, a, 3, c.octets)
		tells(t, a, continuation(3, "", true), headers(3, fits, true))
		tells(t, a, headers(1, fits, true), headers(1, fits, true))
	}
}

func TestMostInPieces(t *testing.T) {
	const text = "0123456789"
	for most := 1; most <= len(text); most++ {
		for first := range most + 1 {
			for _, whole := range []bool{false, true} {
				a := block.New(most)
				nothing(t, a, headers(1, text[:first], false))
				fails(t, a, continuation(1, text[first:most]+"x", whole), api.EnhanceYourCalm)
				isShut(t, a)

				b := block.New(most)
				nothing(t, b, headers(1, text[:first], false))
				nothing(t, b, continuation(1, text[first:most], false))
				isOpen(t, b, 1, most)
				nothing(t, b, continuation(1, "", false))
				fails(t, b, continuation(1, "x", whole), api.EnhanceYourCalm)
				isShut(t, b)
			}
		}
	}
}

// A most that no block reaches takes no more room than its octets.
func TestGreatMost(t *testing.T) {
	for _, most := range []int{1 << 31, 1 << 40, math.MaxInt} {
		a := block.New(most)
		nothing(t, a, headers(1, "a", false))
		nothing(t, a, continuation(1, "b", false))
		isOpen(t, a, 1, 2)
		tells(t, a, continuation(1, "c", true), headers(1, "abc", true))
	}
}

func TestThirtyTwoMayFollow(t *testing.T) {
	a := block.New(100)
	// The count is one of each block, not of all.
	for range 3 {
		nothing(t, a, headers(1, "a", false))
		for i := range 31 {
			nothing(t, a, continuation(1, "b", false))
			isOpen(t, a, 1, i+2)
		}
		tells(t, a, continuation(1, "c", true), headers(1, "a"+strings.Repeat("b", 31)+"c", true))
		isShut(t, a)
	}
}

func TestNoneBehindThirtyTwo(t *testing.T) {
	for _, f := range []api.Frame{
		continuation(1, "", false), continuation(1, "", true), continuation(1, "b", false), continuation(1, "b", true),
		continuation(1, "01234567890", true),
	} {
		a := opened(t, 10, 1, 32)
		isOpen(t, a, 1, 0)
		fails(t, a, f, api.EnhanceYourCalm)
		isShut(t, a)
	}
}

// What is broken tells the same fault of whatever comes, also of what would
// be another one.
func TestBrokenStaysSo(t *testing.T) {
	for _, c := range []struct {
		ahead []api.Frame
		code  api.Code
	}{
		{[]api.Frame{continuation(1, "a", true)}, api.ProtocolError},
		{[]api.Frame{headers(1, "a", false), headers(1, "b", true)}, api.ProtocolError},
		{[]api.Frame{headers(1, "a", false), {Kind: api.Ping}}, api.ProtocolError},
		{[]api.Frame{headers(1, "01234567890", true)}, api.EnhanceYourCalm},
		{[]api.Frame{headers(1, "01234", false), continuation(1, "567890", true)}, api.EnhanceYourCalm},
	} {
		a := block.New(10)
		for _, f := range c.ahead {
			a.Step(f)
		}
		isShut(t, a)
		for _, f := range []api.Frame{
			{}, {Kind: api.Ping}, headers(1, "a", false), continuation(1, "b", true), continuation(3, "", false),
			headers(1, "a", true), headers(3, "01234567890", false), full(200, 1), {Kind: -1},
		} {
			fails(t, a, f, c.code)
			isShut(t, a)
		}
	}
}

// Asking changes nothing.
func TestAskingChangesNothing(t *testing.T) {
	a := block.New(10)
	nothing(t, a, headers(1, "a", false))
	for range 3 {
		isOpen(t, a, 1, 1)
	}
	tells(t, a, continuation(1, "b", true), headers(1, "ab", true))
	for range 3 {
		isShut(t, a)
	}
}

// scribble writes over all that a frame holds, and behind it as far as its
// memory goes.
func scribble(f api.Frame) {
	for i := range f.Payload[:cap(f.Payload)] {
		f.Payload[:cap(f.Payload)][i] = '!'
	}
	for i := range f.List[:cap(f.List)] {
		f.List[:cap(f.List)][i] = api.Setting{ID: -1, Value: 99}
	}
}

// roomy is a frame whose lists have room behind them, to be written into.
func roomy(f api.Frame) api.Frame {
	f.Payload = append(make([]byte, 0, 64), f.Payload...)
	f.List = append(make([]api.Setting, 0, 8), f.List...)
	return f
}

// What is handed in stays as it was, with what is behind it, and is not kept:
// R1.
func TestWhatIsHandedInIsNotKept(t *testing.T) {
	a := block.New(100)
	ends := full(api.Continuation, 1)
	ends.EndHeaders = true
	want := full(api.Headers, 1)
	want.EndHeaders = true
	want.Payload = []byte("ababab")
	for range 3 {
		for _, c := range []struct {
			f, want api.Frame
			ok      bool
		}{
			{full(api.Settings, 0), full(api.Settings, 0), true},
			{full(api.Headers, 1), api.Frame{}, false},
			{full(api.Continuation, 1), api.Frame{}, false},
			{ends, want, true},
		} {
			in, before := roomy(c.f), roomy(c.f)
			x, ok, wrong := a.Step(in)
			behind := in.Payload[:cap(in.Payload)]
			if !reflect.DeepEqual(in, before) || !reflect.DeepEqual(behind, before.Payload[:cap(before.Payload)]) {
				t.Errorf("Step wrote over %v: %v", before, in)
			}
			scribble(in)
			if !same(x, c.want) || ok != c.ok || wrong.Is {
				t.Errorf("Step: %v, %v, %v; want %v, %v", x, ok, wrong, c.want, c.ok)
			}
		}
	}
}

// What is answered is the caller's: R1.
func TestWhatIsAnsweredIsTheCallers(t *testing.T) {
	a := block.New(100)
	for range 3 {
		for _, f := range []api.Frame{full(api.Data, 1), headers(1, "abc", true), full(api.Headers, 1), full(api.Continuation, 1), continuation(1, "c", true)} {
			kept := roomy(f)
			x, _, _ := a.Step(kept)
			scribble(x)
			if !reflect.DeepEqual(kept, roomy(f)) {
				t.Errorf("the answer to %v shares memory with it", f)
			}
		}
	}
	nothing(t, a, headers(3, "abc", false))
	tells(t, a, continuation(3, "d", true), headers(3, "abcd", true))
	first, _, _ := a.Step(headers(3, "abcd", true))
	second, _, _ := a.Step(headers(3, "efgh", true))
	scribble(second)
	if string(first.Payload) != "abcd" {
		t.Errorf("two answers share memory: %s", first.Payload)
	}
}

// Two assemblers have nothing to do with each other: R3.
func TestAssemblersAreApart(t *testing.T) {
	a, b := block.New(10), block.New(10)
	nothing(t, a, headers(1, "a", false))
	isShut(t, b)
	nothing(t, b, headers(3, "bc", false))
	isOpen(t, a, 1, 1)
	isOpen(t, b, 3, 2)
	fails(t, b, headers(1, "", true), api.ProtocolError)
	tells(t, a, continuation(1, "d", true), headers(1, "ad", true))
	fails(t, b, continuation(3, "", true), api.ProtocolError)
}

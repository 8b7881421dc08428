package stream_test

import (
	"math"
	"strings"
	"testing"

	"flume/api"
	"flume/stream"
)

// hold holds what Step answers against what is asked.
func hold(t *testing.T, state int, sends bool, kind int, end bool, want outcome) {
	t.Helper()
	if got := told(stream.Step(state, sends, kind, end)); got != want {
		t.Errorf("Step of %d, %v, %d, %v: %v; want %v", state, sends, kind, end, got, want)
	}
}

func TestNumbers(t *testing.T) {
	for i, n := range []int{
		stream.Idle, stream.Open, stream.HalfLocal, stream.HalfRemote, stream.Closed, stream.ClosedOurs, stream.ClosedTheirs,
	} {
		if n != i {
			t.Errorf("state %d: %d", i, n)
		}
	}
	for i, n := range []int{stream.Takes, stream.Ignores, stream.Resets, stream.Breaks, stream.Refuses} {
		if n != i {
			t.Errorf("what is to be done, %d: %d", i, n)
		}
	}
	for i, n := range []int{stream.None, stream.TheirsNew, stream.TheirsPast, stream.OursNew, stream.OursPast} {
		if n != i {
			t.Errorf("class %d: %d", i, n)
		}
	}
}

func TestStepOfExamples(t *testing.T) {
	hold(t, stream.Idle, false, api.Headers, true, outcome{stream.HalfRemote, stream.Takes, api.NoError})
	hold(t, stream.HalfRemote, false, api.Data, false, outcome{stream.ClosedOurs, stream.Resets, api.StreamClosed})
	hold(t, stream.Closed, true, api.Data, false, outcome{stream.Closed, stream.Refuses, api.InternalError})
}

func TestStepOfMessages(t *testing.T) {
	for _, c := range []struct {
		state      int
		sends, end bool
		want       outcome
	}{
		{stream.Open, false, false, outcome{stream.Open, stream.Takes, 0}},
		{stream.Open, false, true, outcome{stream.HalfRemote, stream.Takes, 0}},
		{stream.HalfLocal, false, false, outcome{stream.HalfLocal, stream.Takes, 0}},
		{stream.HalfLocal, false, true, outcome{stream.Closed, stream.Takes, 0}},
		{stream.HalfRemote, false, true, outcome{stream.ClosedOurs, stream.Resets, 5}},
		{stream.Closed, false, true, outcome{stream.Closed, stream.Breaks, 5}},
		{stream.ClosedOurs, false, true, outcome{stream.ClosedOurs, stream.Ignores, 0}},
		{stream.ClosedTheirs, false, true, outcome{stream.ClosedOurs, stream.Resets, 5}},
		{stream.Open, true, false, outcome{stream.Open, stream.Takes, 0}},
		{stream.Open, true, true, outcome{stream.HalfLocal, stream.Takes, 0}},
		{stream.HalfLocal, true, false, outcome{stream.HalfLocal, stream.Refuses, 2}},
		{stream.HalfLocal, true, true, outcome{stream.HalfLocal, stream.Refuses, 2}},
		{stream.HalfRemote, true, false, outcome{stream.HalfRemote, stream.Takes, 0}},
		{stream.HalfRemote, true, true, outcome{stream.Closed, stream.Takes, 0}},
		{stream.ClosedOurs, true, true, outcome{stream.ClosedOurs, stream.Refuses, 2}},
		{stream.ClosedTheirs, true, false, outcome{stream.ClosedTheirs, stream.Refuses, 2}},
	} {
		hold(t, c.state, c.sends, api.Headers, c.end, c.want)
		hold(t, c.state, c.sends, api.Data, c.end, c.want)
	}
}

// HEADERS open a stream; DATA never do.
func TestStepOfTheFirstFrame(t *testing.T) {
	hold(t, stream.Idle, false, api.Headers, false, outcome{stream.Open, stream.Takes, 0})
	hold(t, stream.Idle, true, api.Headers, false, outcome{stream.Open, stream.Takes, 0})
	hold(t, stream.Idle, true, api.Headers, true, outcome{stream.HalfLocal, stream.Takes, 0})
	for _, end := range []bool{false, true} {
		hold(t, stream.Idle, false, api.Data, end, outcome{stream.Idle, stream.Breaks, 1})
		hold(t, stream.Idle, true, api.Data, end, outcome{stream.Idle, stream.Refuses, 2})
	}
}

// END_STREAM is nothing of other kinds.
func TestStepOfEndThatDoesNotMatter(t *testing.T) {
	for state := -1; state <= 7; state++ {
		for kind := 2; kind < 20; kind++ {
			for _, sends := range []bool{false, true} {
				hold(t, state, sends, kind, true, told(stream.Step(state, sends, kind, false)))
			}
		}
	}
}

// kindsBesides are kinds of which the tables do not speak.
var kindsBesides = []int{
	api.Settings, api.Ping, api.Goaway, api.Continuation, 10, 77, 255, 256, 257, 258, 259, 261, 264,
	1<<32 + 1, 1<<32 + 3, -1, -2, -256, math.MaxInt, math.MinInt, math.MinInt + 1,
}

func TestStepOfOtherKinds(t *testing.T) {
	for state := stream.Idle; state <= stream.ClosedTheirs; state++ {
		for _, kind := range kindsBesides {
			hold(t, state, false, kind, false, outcome{state, stream.Takes, 0})
			hold(t, state, false, kind, true, outcome{state, stream.Takes, 0})
			hold(t, state, true, kind, false, outcome{state, stream.Takes, 0})
			hold(t, state, true, kind, true, outcome{state, stream.Takes, 0})
		}
	}
}

// A state that is none is told ahead of any kind, those besides too.
func TestStepOfStatesThatAreNone(t *testing.T) {
	for _, state := range []int{-1, -2, 7, 8, 9, 255, 256, 257, 1 << 32, 1<<32 + 1, math.MaxInt, math.MinInt, math.MinInt + 1} {
		for _, kind := range append(columns, kindsBesides...) {
			hold(t, state, false, kind, false, outcome{state, stream.Refuses, api.InternalError})
			hold(t, state, false, kind, true, outcome{state, stream.Refuses, api.InternalError})
			hold(t, state, true, kind, false, outcome{state, stream.Refuses, api.InternalError})
			hold(t, state, true, kind, true, outcome{state, stream.Refuses, api.InternalError})
		}
	}
}

func TestStepIsAsTheTables(t *testing.T) {
	for state := -3; state <= 12; state++ {
		for kind := -3; kind <= 260; kind++ {
			for _, sends := range []bool{false, true} {
				for _, end := range []bool{false, true} {
					hold(t, state, sends, kind, end, plainStep(state, sends, kind, end))
				}
			}
		}
	}
}

func TestWhatIsClosedStaysSo(t *testing.T) {
	for state := stream.Closed; state <= stream.ClosedTheirs; state++ {
		for kind := range 20 {
			for _, sends := range []bool{false, true} {
				for _, end := range []bool{false, true} {
					if next, _, _ := stream.Step(state, sends, kind, end); next < stream.Closed || next > stream.ClosedTheirs {
						t.Errorf("Step of %d, %v, %d, %v: %d", state, sends, kind, end, next)
					}
				}
			}
		}
	}
}

// words are frames, a letter each; a capital has END_STREAM.
const words = "hHdDprwuso"

// frameOf is the kind of a frame, and whether it has END_STREAM.
func frameOf(letter byte) (int, bool) {
	kinds := map[byte]int{
		'h': api.Headers, 'd': api.Data, 'p': api.Priority, 'r': api.RstStream,
		'w': api.WindowUpdate, 'u': api.PushPromise, 's': api.Settings, 'o': 77,
	}
	small := strings.ToLower(string(letter))
	return kinds[small[0]], small[0] != letter
}

// pair is the states of a stream's two ends, and what each has sent that the
// other one did not get yet.
type pair struct {
	states [2]int
	under  [2]string
}

// sent is all pairs behind one frame more that an end sends.
func (p pair) sent(end, most int) []pair {
	var l []pair
	for i := 0; i < len(words) && len(p.under[end]) < most; i++ {
		kind, last := frameOf(words[i])
		next, do, _ := stream.Step(p.states[end], true, kind, last)
		if do == stream.Takes {
			q := p
			q.states[end] = next
			q.under[end] += words[i : i+1]
			l = append(l, q)
		}
	}
	return l
}

// got is the pair behind the first frame that an end gets, and what it is to
// do with that.
func (p pair) got(end int) (pair, int) {
	kind, last := frameOf(p.under[1-end][0])
	next, do, _ := stream.Step(p.states[end], false, kind, last)
	p.states[end] = next
	p.under[1-end] = p.under[1-end][1:]
	return p, do
}

// Two ends that send what they may never find a fault, however long it is
// under way: all pairs are gone through with up to three frames each way.
func TestTwoEndsFindNoFault(t *testing.T) {
	seen := map[pair]struct{}{{}: {}}
	work := []pair{{}}
	for len(work) > 0 {
		p := work[len(work)-1]
		work = work[:len(work)-1]
		var l []pair
		for end := range 2 {
			l = append(l, p.sent(end, 3)...)
			if p.under[1-end] == "" {
				continue
			}
			q, do := p.got(end)
			if do != stream.Takes && do != stream.Ignores {
				t.Fatalf("%v: end %d is to do %d with its next frame", p, end, do)
			}
			l = append(l, q)
		}
		for _, q := range l {
			if _, ok := seen[q]; !ok {
				seen[q] = struct{}{}
				work = append(work, q)
			}
		}
	}
	if len(seen) < 1000 {
		t.Errorf("no more than %d pairs", len(seen))
	}
}

func FuzzStep(f *testing.F) {
	f.Add(0, false, 1, true)
	f.Add(3, false, 0, false)
	f.Add(9, true, 77, false)
	f.Fuzz(func(t *testing.T, state int, sends bool, kind int, end bool) {
		hold(t, state, sends, kind, end, plainStep(state, sends, kind, end))
	})
}

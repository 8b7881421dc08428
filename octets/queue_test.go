package octets_test

import (
	"bytes"
	"math"
	"math/rand"
	"testing"

	"flume/octets"
)

// filled is a queue that holds these octets.
func filled(t *testing.T, most int, text string) *octets.Queue {
	t.Helper()
	q := octets.New(most)
	if n := q.Push([]byte(text)); n != len(text) {
		t.Fatalf("Push of %d octets: %d", len(text), n)
	}
	return q
}

// holds asks a queue for all that can be seen of it.
func holds(t *testing.T, q *octets.Queue, want string, room int) {
	t.Helper()
	if got := q.Peek(math.MaxInt); string(got) != want || q.Len() != len(want) || q.Room() != room {
		t.Errorf("holds %v, Len %d, Room %d; want %v, Room %d", got, q.Len(), q.Room(), []byte(want), room)
	}
}

func TestQueueOfExample(t *testing.T) {
	q := octets.New(3)
	if n := q.Push([]byte{1, 2, 3, 4}); n != 3 {
		t.Error(n)
	}
	holds(t, q, "\x01\x02\x03", 0)
	if b := q.Pop(2); string(b) != "\x01\x02" {
		t.Error(b)
	}
	holds(t, q, "\x03", 2)
}

func TestNewHoldsNothing(t *testing.T) {
	for most, room := range map[int]int{
		math.MinInt: 0, -1: 0, 0: 0,
		1: 1, 2: 2, 65535: 65535, 999999: 999999,
		1000000: 1000000, 1000001: 1000000, math.MaxInt: 1000000,
	} {
		holds(t, octets.New(most), "", room)
	}
}

func TestBoundOfNoneTakesNothing(t *testing.T) {
	for _, most := range []int{math.MinInt, -1, 0} {
		q := octets.New(most)
		if n := q.Push([]byte{1}); n != 0 {
			t.Errorf("most %d: Push took %d", most, n)
		}
		holds(t, q, "", 0)
		if b := q.Pop(1); len(b) != 0 {
			t.Errorf("most %d: Pop had %v", most, b)
		}
	}
}

func TestBoundOfAMillion(t *testing.T) {
	b := bytes.Repeat([]byte("0123456789"), 100001)
	for _, most := range []int{1000000, 1000001, math.MaxInt} {
		q := octets.New(most)
		if n := q.Push(b); n != 1000000 {
			t.Errorf("most %d: Push took %d", most, n)
		}
		if n := q.Push(b); n != 0 || q.Room() != 0 || q.Len() != 1000000 {
			t.Errorf("most %d: a full one took %d, Room %d, Len %d", most, n, q.Room(), q.Len())
		}
		if out := q.Pop(2000000); !bytes.Equal(out, b[:1000000]) || q.Room() != 1000000 {
			t.Errorf("most %d: Pop had %d octets, Room %d", most, len(out), q.Room())
		}
	}
}

func TestPushTakesWhatHasRoom(t *testing.T) {
	q := filled(t, 5, "\x01\x02")
	if n := q.Push([]byte{3, 4}); n != 2 {
		t.Error(n)
	}
	holds(t, q, "\x01\x02\x03\x04", 1)
	if n := q.Push([]byte{5, 6, 7}); n != 1 {
		t.Error(n)
	}
	holds(t, q, "\x01\x02\x03\x04\x05", 0)
	if n := q.Push([]byte{8}); n != 0 {
		t.Error(n)
	}
	holds(t, q, "\x01\x02\x03\x04\x05", 0)
}

func TestPushFillsTheLastRoom(t *testing.T) {
	holds(t, filled(t, 3, "\x01\x02\x03"), "\x01\x02\x03", 0)
}

func TestPushOfNothing(t *testing.T) {
	q := filled(t, 3, "\x09")
	for _, b := range [][]byte{nil, {}} {
		if n := q.Push(b); n != 0 {
			t.Error(n)
		}
		holds(t, q, "\x09", 2)
	}
}

func TestPopTakesOut(t *testing.T) {
	for _, c := range []struct {
		n         int
		out, left string
	}{
		{math.MinInt, "", "abcd"}, {-1, "", "abcd"}, {0, "", "abcd"},
		{1, "a", "bcd"}, {3, "abc", "d"}, {4, "abcd", ""},
		{5, "abcd", ""}, {math.MaxInt, "abcd", ""},
	} {
		q := filled(t, 6, "abcd")
		if b := q.Pop(c.n); string(b) != c.out {
			t.Errorf("Pop of %d: %q", c.n, b)
		}
		holds(t, q, c.left, 6-len(c.left))
	}
}

func TestPeekLeavesAll(t *testing.T) {
	for _, c := range []struct {
		n   int
		out string
	}{
		{math.MinInt, ""}, {-1, ""}, {0, ""}, {1, "a"}, {3, "abc"},
		{4, "abcd"}, {5, "abcd"}, {math.MaxInt, "abcd"},
	} {
		q := filled(t, 6, "abcd")
		for range 2 {
			if b := q.Peek(c.n); string(b) != c.out {
				t.Errorf("Peek of %d: %q", c.n, b)
			}
			holds(t, q, "abcd", 2)
		}
	}
}

func TestEmptyQueueHasNothing(t *testing.T) {
	q := filled(t, 2, "ab")
	q.Pop(2)
	for _, n := range []int{-1, 0, 1, 100} {
		if a, b := q.Peek(n), q.Pop(n); len(a) != 0 || len(b) != 0 {
			t.Errorf("of %d: %v, %v", n, a, b)
		}
	}
	holds(t, q, "", 2)
}

// R1: what was handed in is its owner's.
func TestPushKeepsNothingOfItsOwner(t *testing.T) {
	b := []byte("abcdef")
	q := octets.New(4)
	q.Push(b)
	if string(b) != "abcdef" {
		t.Errorf("Push wrote over what it was handed: %q", b)
	}
	clear(b)
	holds(t, q, "abcd", 0)
	q.Pop(1)
	q.Push([]byte("g"))
	if string(b) != "\x00\x00\x00\x00\x00\x00" {
		t.Errorf("what was handed in is written over later: %q", b)
	}
	holds(t, q, "bcdg", 0)
}

// R1: what came out is the caller's, with the room behind it.
func TestAnswersAreTheCallers(t *testing.T) {
	q := filled(t, 8, "abcdef")
	peeked := q.Peek(4)
	popped := q.Pop(2)
	again := q.Peek(4)
	clear(peeked[:cap(peeked)])
	clear(popped[:cap(popped)])
	holds(t, q, "cdef", 4)
	if string(again) != "cdef" {
		t.Errorf("two answers share their octets: %q", again)
	}
	q.Push([]byte("ghij"))
	q.Pop(3)
	q.Push([]byte("klm"))
	if string(again) != "cdef" || string(peeked) != "\x00\x00\x00\x00" || string(popped) != "\x00\x00" {
		t.Errorf("an answer is written over later: %q, %q, %q", again, peeked, popped)
	}
	holds(t, q, "fghijklm", 0)
}

func TestPopOfAllIsTheCallers(t *testing.T) {
	q := filled(t, 4, "abcd")
	out := q.Pop(4)
	q.Push([]byte("wxyz"))
	if string(out) != "abcd" {
		t.Errorf("written over: %q", out)
	}
	clear(out[:cap(out)])
	holds(t, q, "wxyz", 0)
}

// R3: two queues have nothing to do with each other, though one holds what
// came out of the other.
func TestQueuesAreApart(t *testing.T) {
	a, b := octets.New(4), octets.New(6)
	shared := []byte("abcd")
	a.Push(shared)
	b.Push(shared)
	b.Push(a.Peek(2))
	a.Pop(3)
	a.Push([]byte("xyz"))
	holds(t, a, "dxyz", 0)
	holds(t, b, "abcdab", 0)
}

// R4: the same calls have the same answers.
func TestSameCallsSameAnswers(t *testing.T) {
	told := func() []byte {
		q := octets.New(10)
		var out []byte
		for i := range 50 {
			n := q.Push([]byte{byte(i), byte(i + 1), byte(i + 2)})
			out = append(out, byte(n))
			out = append(out, q.Pop(i%4)...)
			out = append(out, byte(q.Len()), byte(q.Room()))
		}
		return out
	}
	if a, b := told(), told(); !bytes.Equal(a, b) {
		t.Errorf("%v and %v", a, b)
	}
}

// step makes one call on a queue and on a plain list of octets, and tells
// whether they say the same.
func step(q *octets.Queue, list []byte, most, kind, n int, b []byte) ([]byte, bool) {
	had := list[:max(0, min(n, len(list)))]
	switch kind {
	case 0:
		took := min(len(b), most-len(list))
		list = append(bytes.Clone(list), b[:took]...)
		if q.Push(b) != took {
			return list, false
		}
	case 1:
		if !bytes.Equal(q.Pop(n), had) {
			return list, false
		}
		list = list[len(had):]
	default:
		if !bytes.Equal(q.Peek(n), had) {
			return list, false
		}
	}
	return list, q.Len() == len(list) && q.Room() == most-len(list) && bytes.Equal(q.Peek(most), list)
}

// What goes out is what went in, in that order, whatever calls are made.
func TestQueueIsAsAPlainList(t *testing.T) {
	r := rand.New(rand.NewSource(1))
	for _, most := range []int{0, 1, 2, 3, 7, 64, 1000} {
		q := octets.New(most)
		var list []byte
		for i := range 3000 {
			b := make([]byte, r.Intn(most+3))
			r.Read(b)
			kind, n := r.Intn(3), r.Intn(most+4)-2
			same := false
			if list, same = step(q, list, most, kind, n, b); !same {
				t.Fatalf("most %d, call %d: kind %d, n %d, %d octets: holds %v, not %v", most, i, kind, n, len(b), q.Peek(most), list)
			}
			clear(b)
		}
	}
}

func TestWhatGoesOutIsWhatWentIn(t *testing.T) {
	q := octets.New(100)
	in := make([]byte, 5000)
	for i := range in {
		in[i] = byte(i ^ i>>8)
	}
	var out []byte
	for rest := in; len(rest) > 0; {
		rest = rest[q.Push(rest):]
		out = append(out, q.Pop(37)...)
	}
	out = append(out, q.Pop(100)...)
	if !bytes.Equal(out, in) || q.Len() != 0 {
		t.Errorf("%d octets went in, %d out, %d stay", len(in), len(out), q.Len())
	}
}

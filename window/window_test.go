package window_test

import (
	"math"
	"math/rand"
	"testing"

	"flume/api"
	"flume/window"
)

const most = math.MaxInt32

// answer is what the first three calls answer.
type answer struct {
	w int
	e api.Errno
}

// told makes an answer of a call's results.
func told(w int, e api.Errno) answer {
	return answer{w, e}
}

// is holds what a call answered against what is asked.
func is(t *testing.T, call string, args []int, got, want answer) {
	t.Helper()
	if got != want {
		t.Errorf("%s of %v: %d, %v; want %d, %v", call, args, got.w, got.e, want.w, want.e)
	}
}

func TestGive(t *testing.T) {
	for _, c := range []struct {
		w, inc int
		want   answer
	}{
		{5, 3, answer{8, api.OK}}, {0, 1, answer{1, api.OK}},
		{65535, 65535, answer{131070, api.OK}},
		// A window below 0 may stay there, come to 0, and go above.
		{-70, 1, answer{-69, api.OK}}, {-70, 70, answer{0, api.OK}}, {-70, 100, answer{30, api.OK}},
		{-most, 1, answer{1 - most, api.OK}}, {-most, most, answer{0, api.OK}},
		// The greatest window may be reached, and no more.
		{0, most, answer{most, api.OK}}, {1, most - 1, answer{most, api.OK}}, {most - 1, 1, answer{most, api.OK}},
		{-1, most, answer{most - 1, api.OK}},
		{5, most, answer{0, api.ErrRange}}, {1, most, answer{0, api.ErrRange}},
		{most, 1, answer{0, api.ErrRange}}, {most - 1, 2, answer{0, api.ErrRange}}, {most, most, answer{0, api.ErrRange}},
		// An inc that may not be.
		{5, 0, answer{0, api.ErrArg}}, {5, -1, answer{0, api.ErrArg}}, {most, 0, answer{0, api.ErrArg}},
		{-70, most + 1, answer{0, api.ErrArg}}, {most, most + 1, answer{0, api.ErrArg}},
		{0, 1<<32 + 1, answer{0, api.ErrArg}}, {0, math.MaxInt, answer{0, api.ErrArg}}, {most, math.MaxInt, answer{0, api.ErrArg}},
		{0, math.MinInt, answer{0, api.ErrArg}}, {-1, math.MinInt, answer{0, api.ErrArg}},
		// A window that may not be.
		{most + 1, 1, answer{0, api.ErrArg}}, {-most - 1, 1, answer{0, api.ErrArg}}, {-most - 1, most, answer{0, api.ErrArg}},
		{math.MaxInt, 1, answer{0, api.ErrArg}}, {math.MinInt, 1, answer{0, api.ErrArg}},
		{math.MaxInt, 0, answer{0, api.ErrArg}}, {math.MinInt, math.MinInt, answer{0, api.ErrArg}},
	} {
		is(t, "Give", []int{c.w, c.inc}, told(window.Give(c.w, c.inc)), c.want)
	}
}

func TestTake(t *testing.T) {
	for _, c := range []struct {
		w, n int
		want answer
	}{
		{10, 3, answer{7, api.OK}}, {10, 10, answer{0, api.OK}}, {65535, 16384, answer{49151, api.OK}},
		{most, 1, answer{most - 1, api.OK}}, {most, most, answer{0, api.OK}},
		// 0 may be taken from any window.
		{10, 0, answer{10, api.OK}}, {0, 0, answer{0, api.OK}}, {-1, 0, answer{-1, api.OK}}, {-70, 0, answer{-70, api.OK}},
		{-most, 0, answer{-most, api.OK}}, {most, 0, answer{most, api.OK}},
		// More than is there.
		{10, 11, answer{0, api.ErrRange}}, {0, 1, answer{0, api.ErrRange}}, {-1, 1, answer{0, api.ErrRange}}, {-70, 1, answer{0, api.ErrRange}},
		{-70, 70, answer{0, api.ErrRange}}, {-most, 1, answer{0, api.ErrRange}}, {-most, most, answer{0, api.ErrRange}},
		{most - 1, most, answer{0, api.ErrRange}},
		// No bound of n is told but that of the window.
		{most, most + 1, answer{0, api.ErrRange}}, {0, math.MaxInt, answer{0, api.ErrRange}}, {-most, math.MaxInt, answer{0, api.ErrRange}},
		// An n that may not be.
		{10, -1, answer{0, api.ErrArg}}, {-70, -71, answer{0, api.ErrArg}}, {-70, -70, answer{0, api.ErrArg}}, {0, math.MinInt, answer{0, api.ErrArg}},
		// A window that may not be.
		{most + 1, 0, answer{0, api.ErrArg}}, {most + 1, 1, answer{0, api.ErrArg}}, {-most - 1, 0, answer{0, api.ErrArg}}, {-most - 1, 1, answer{0, api.ErrArg}},
		{math.MaxInt, 0, answer{0, api.ErrArg}}, {math.MinInt, 0, answer{0, api.ErrArg}}, {math.MinInt, math.MaxInt, answer{0, api.ErrArg}},
	} {
		is(t, "Take", []int{c.w, c.n}, told(window.Take(c.w, c.n)), c.want)
	}
}

func TestShift(t *testing.T) {
	for _, c := range []struct {
		w, was, is int
		want       answer
	}{
		{10, 100, 20, answer{-70, api.OK}}, {10, 20, 100, answer{90, api.OK}}, {10, 20, 20, answer{10, api.OK}},
		{-70, 20, 100, answer{10, api.OK}}, {-70, 20, 20, answer{-70, api.OK}}, {65535, 65535, 0, answer{0, api.OK}},
		{0, 0, most, answer{most, api.OK}}, {0, most, 0, answer{-most, api.OK}}, {most, most, 0, answer{0, api.OK}},
		{-most, 0, most, answer{0, api.OK}}, {most, most, most, answer{most, api.OK}}, {-most, 0, 0, answer{-most, api.OK}},
		// What is between may be out of bounds: the end alone counts.
		{most, 0, 0, answer{most, api.OK}}, {-most, most, most, answer{-most, api.OK}}, {most, 1, 1, answer{most, api.OK}},
		// The edges, and one behind each.
		{most - 1, 0, 1, answer{most, api.OK}}, {most - 1, 0, 2, answer{0, api.ErrRange}}, {most, 0, 1, answer{0, api.ErrRange}},
		{most, 0, most, answer{0, api.ErrRange}}, {1, 0, most, answer{0, api.ErrRange}},
		{1 - most, 1, 0, answer{-most, api.OK}}, {1 - most, 2, 0, answer{0, api.ErrRange}}, {-most, 1, 0, answer{0, api.ErrRange}},
		{-most, most, 0, answer{0, api.ErrRange}}, {-1, most, 0, answer{0, api.ErrRange}},
		// First windows that may not be, though the sum were right.
		{10, -1, 20, answer{0, api.ErrArg}}, {10, 20, -1, answer{0, api.ErrArg}}, {10, -1, -1, answer{0, api.ErrArg}},
		{10, most + 1, 20, answer{0, api.ErrArg}}, {10, 20, most + 1, answer{0, api.ErrArg}}, {10, most + 1, most + 1, answer{0, api.ErrArg}},
		{-10, 0, most + 1, answer{0, api.ErrArg}}, {10, most + 1, 0, answer{0, api.ErrArg}},
		{0, math.MaxInt, math.MaxInt, answer{0, api.ErrArg}}, {0, math.MinInt, math.MinInt, answer{0, api.ErrArg}},
		{0, math.MinInt, 0, answer{0, api.ErrArg}}, {0, 0, math.MaxInt, answer{0, api.ErrArg}},
		// A window that may not be, though the sum were right.
		{most + 1, 1, 0, answer{0, api.ErrArg}}, {-most - 1, 0, 1, answer{0, api.ErrArg}}, {most + 1, 0, 0, answer{0, api.ErrArg}}, {-most - 1, 0, 0, answer{0, api.ErrArg}},
		{math.MaxInt, most, 0, answer{0, api.ErrArg}}, {math.MinInt, 0, most, answer{0, api.ErrArg}}, {math.MinInt, most, 0, answer{0, api.ErrArg}},
	} {
		is(t, "Shift", []int{c.w, c.was, c.is}, told(window.Shift(c.w, c.was, c.is)), c.want)
	}
}

func TestMost(t *testing.T) {
	for _, c := range [][5]int{
		{9, 70, 16384, 100, 9}, {70, 9, 16384, 100, 9}, {100, 70, 9, 16384, 9}, {16384, 100, 70, 9, 9},
		{5, 5, 5, 5, 5}, {most, most, most, most, most}, {math.MaxInt, math.MaxInt, math.MaxInt, math.MaxInt, math.MaxInt},
		{1, 1, 1, 1, 1}, {math.MaxInt, math.MaxInt, math.MaxInt, 1, 1},
		// One that is 0, or below, is enough for nothing.
		{9, -70, 16384, 100, 0}, {-70, 9, 16384, 100, 0}, {9, 70, -1, 100, 0}, {9, 70, 16384, -1, 0},
		{0, 9, 9, 9, 0}, {9, 0, 9, 9, 0}, {9, 9, 0, 9, 0}, {9, 9, 9, 0, 0}, {0, 0, 0, 0, 0},
		{-1, -2, -3, -4, 0}, {math.MinInt, 9, 9, 9, 0}, {math.MinInt, math.MinInt, math.MinInt, math.MinInt, 0}, {9, 9, 9, math.MinInt, 0},
	} {
		if n := window.Most(c[0], c[1], c[2], c[3]); n != c[4] {
			t.Errorf("Most of %v: %d", c[:4], n)
		}
	}
}

// edges are the numbers at which the chapter turns, and those beside them.
var edges = []int{
	math.MinInt, math.MinInt + 1, -1 << 33, -1 << 32, 1 - 1<<32, -2*most - 1, -2 * most, 1 - 2*most,
	-most - 2, -most - 1, -most, 1 - most, 2 - most, -65536, -65535, -70, -2, -1,
	0, 1, 2, 70, 65535, 65536, most - 2, most - 1, most, most + 1, most + 2,
	2*most - 1, 2 * most, 2*most + 1, 1 << 32, 1 << 33, math.MaxInt - 1, math.MaxInt,
}

func TestWindowsAreAsThePlainModelAtEdges(t *testing.T) {
	for _, a := range edges {
		for _, b := range edges {
			is(t, "Give", []int{a, b}, told(window.Give(a, b)), plainGive(a, b))
			is(t, "Take", []int{a, b}, told(window.Take(a, b)), plainTake(a, b))
			for _, c := range edges {
				is(t, "Shift", []int{a, b, c}, told(window.Shift(a, b, c)), plainShift(a, b, c))
				if n := window.Most(a, b, c, 71); n != plainMost(a, b, c, 71) {
					t.Errorf("Most of %d, %d, %d, 71: %d", a, b, c, n)
				}
				if n := window.Most(71, c, b, a); n != plainMost(71, c, b, a) {
					t.Errorf("Most of 71, %d, %d, %d: %d", c, b, a, n)
				}
			}
		}
	}
}

// someNumber is often near an edge, and often between.
func someNumber(r *rand.Rand) int {
	switch r.Intn(4) {
	case 0:
		return edges[r.Intn(len(edges))] + r.Intn(7) - 3
	case 1:
		return r.Intn(2*most+3) - most - 1
	case 2:
		return r.Intn(200) - 100
	default:
		return r.Intn(most + 2)
	}
}

func TestWindowsAreAsThePlainModel(t *testing.T) {
	r := rand.New(rand.NewSource(1))
	for range 200000 {
		a, b, c, d := someNumber(r), someNumber(r), someNumber(r), someNumber(r)
		is(t, "Give", []int{a, b}, told(window.Give(a, b)), plainGive(a, b))
		is(t, "Take", []int{a, b}, told(window.Take(a, b)), plainTake(a, b))
		is(t, "Shift", []int{a, b, c}, told(window.Shift(a, b, c)), plainShift(a, b, c))
		if n := window.Most(a, b, c, d); n != plainMost(a, b, c, d) {
			t.Errorf("Most of %d, %d, %d, %d: %d", a, b, c, d, n)
		}
	}
}

// What is given may be taken again, and a first window that goes to and fro
// leaves a window as it was.
func TestWindowsComeBack(t *testing.T) {
	r := rand.New(rand.NewSource(2))
	for range 20000 {
		w, inc, was, next := r.Intn(most), 1+r.Intn(most), r.Intn(most), r.Intn(most)
		if more, e := window.Give(w, inc); e == api.OK {
			is(t, "Take", []int{more, inc}, told(window.Take(more, inc)), answer{w, api.OK})
		}
		if moved, e := window.Shift(w, was, next); e == api.OK {
			is(t, "Shift", []int{moved, next, was}, told(window.Shift(moved, next, was)), answer{w, api.OK})
		}
	}
}

func FuzzWindows(f *testing.F) {
	f.Add(5, most, 16384, 100)
	f.Add(10, 100, 20, 0)
	f.Add(-70, 0, -1, most+1)
	f.Fuzz(func(t *testing.T, a, b, c, d int) {
		is(t, "Give", []int{a, b}, told(window.Give(a, b)), plainGive(a, b))
		is(t, "Take", []int{a, b}, told(window.Take(a, b)), plainTake(a, b))
		is(t, "Shift", []int{a, b, c}, told(window.Shift(a, b, c)), plainShift(a, b, c))
		if n := window.Most(a, b, c, d); n != plainMost(a, b, c, d) {
			t.Errorf("Most of %d, %d, %d, %d: %d", a, b, c, d, n)
		}
	})
}

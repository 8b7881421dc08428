package weigh_test

import (
	"math"
	"slices"
	"testing"

	"flume/weigh"
)

const (
	tiny  = math.SmallestNonzeroFloat64
	never = uint64(math.MaxUint64)
)

var (
	nan  = math.NaN()
	inf  = math.Inf(1)
	zero = math.Copysign(0, -1)
	over = math.Nextafter(1e9, inf)
)

// many is n weights of v each.
func many(n int, v float64) []float64 {
	return slices.Repeat([]float64{v}, n)
}

// wrong is weights that are not right, one cause each.
func wrong() [][]float64 {
	return [][]float64{
		nil, {}, many(65, 1), many(65, 0), many(1000, 1e9), many(65, zero),
		{0}, {zero}, {0, zero, 0}, many(64, 0), many(64, zero),
		{nan}, {-nan}, {1, nan}, {nan, 1}, {1, nan, 1}, {math.Float64frombits(0x7ff0000000000001)}, {1, math.Float64frombits(0xffffffffffffffff)},
		{inf}, {1, inf}, {inf, 1}, {-inf}, {1, -inf}, {-inf, inf}, {inf, nan},
		{-1}, {-tiny}, {1, -tiny}, {-tiny, 1}, {2, -1}, {-1, 2}, {-1e9}, {-1e-300, 1},
		{over}, {1, over}, {over, 1}, {1e9 + 1}, {1e10}, {math.MaxFloat64}, {0, 1 << 62},
		append(many(63, 1), nan), append(many(63, 1), -tiny), append(many(63, 1), over), append(many(63, 1), inf),
		append(many(64, 1), 0), append(many(64, 0), 1),
	}
}

// right is weights of all ends.
func right() [][]float64 {
	return [][]float64{
		{1}, {tiny}, {1e9}, {0, 1}, {1, 0}, {zero, 1}, {1, zero}, {1, 0, 1}, {0, 0, 1, 0, 0},
		{tiny, 0}, {0, tiny}, {tiny, tiny}, {tiny, 0, tiny, 0}, {2 * tiny, tiny}, {tiny, 1e9}, {1e9, tiny}, {1e9, tiny, 1e9},
		{1e9, 1e-8, 1e-8, 1e-8, 1e-8, 1e-8, 1e-8, 1e-8, 1e-8, 1e-8}, {1e-8, 1e-8, 1e-8, 1e-8, 1e-8, 1e-8, 1e-8, 1e-8, 1e-8, 1e9},
		{0.1, 0.2, 0.3}, {0.3, 0.2, 0.1}, {0.1, 0.2, 0.3, 0.4}, {1, 3}, {3, 1}, {1, 2, 3, 4, 5}, {1e9, 1e9, 1e9},
		{math.Nextafter(1e9, 0), 1e9}, {1, math.Nextafter(1, 2), math.Nextafter(1, 0)}, {0x1p-1022, tiny, 0x1p-1022},
		many(64, 1), many(64, 1e9), many(64, tiny), many(64, 0.1), many(7, 1.0/7), append(many(63, 0), 1), append([]float64{1}, many(63, 0)...),
		append([]float64{1e9}, many(63, 1e-7)...), append(many(63, 1e-7), 1e9), append(many(63, zero), tiny),
	}
}

// draws is draws at the edges of all, and on both sides of some parts.
func draws() []uint64 {
	list := []uint64{0, 1, 2046, 2047, 2048, 2049, 4095, 4096, never, never - 1, never - 2047, never - 2048, never - 4096}
	for _, part := range []uint64{2, 3, 4, 5, 6, 7, 8, 10, 64} {
		for k := uint64(1); k < part; k++ {
			at := never / part * k
			list = append(list, at, at+1, at+2048, at-2048, at+part, at&^2047, at|2047, (at|2047)+1)
		}
	}
	return list
}

func TestRight(t *testing.T) {
	for _, w := range wrong() {
		if weigh.Right(w) {
			t.Errorf("Right of %v: true", w)
		}
	}
	for _, w := range right() {
		if !weigh.Right(w) {
			t.Errorf("Right of %v: false", w)
		}
	}
}

func TestTotal(t *testing.T) {
	for _, w := range wrong() {
		if got := weigh.Total(w); got != 0 || math.Signbit(got) {
			t.Errorf("Total of %v: %v; want 0", w, got)
		}
	}
	for _, c := range []struct {
		w    []float64
		want float64
	}{
		{[]float64{1}, 1}, {[]float64{1, 0, 1}, 2}, {[]float64{zero, 1}, 1}, {[]float64{tiny}, tiny}, {[]float64{tiny, tiny}, 2 * tiny},
		{[]float64{1e9}, 1e9}, {many(64, 1e9), 64e9}, {many(64, 1), 64}, {many(64, tiny), 64 * tiny},
		// Another order would round to another sum.
		{[]float64{0.1, 0.2, 0.3}, 0.6000000000000001}, {[]float64{0.3, 0.2, 0.1}, 0.6},
		{append([]float64{0x1p29}, many(63, 0x1p-24)...), 0x1p29}, {append(many(63, 0x1p-24), 0x1p29), 0x1p29 + 0x1p-18},
		{[]float64{1e9, tiny}, 1e9},
	} {
		if got := weigh.Total(c.w); got != c.want {
			t.Errorf("Total of %v: %v; want %v", c.w, got, c.want)
		}
	}
}

func TestPick(t *testing.T) {
	half, third := uint64(1)<<63, never/3
	for _, c := range []struct {
		w    []float64
		draw uint64
		want int
	}{
		{[]float64{1, 0, 1}, 0, 0}, {[]float64{1, 0, 1}, half, 2}, {[]float64{1, 0, 1}, half - 1, 0}, {[]float64{1, 0, 1}, never, 2},
		{[]float64{zero, 1}, 0, 1}, {[]float64{0, 1}, 0, 1}, {[]float64{0, 0, 1, 0}, 0, 2}, {[]float64{0, 0, 1, 0}, never, 2},
		{[]float64{1, 0}, 0, 0}, {[]float64{1, 0}, never, 0}, {[]float64{1}, 0, 0}, {[]float64{1}, never, 0},
		{[]float64{1, 3}, 1<<62 - 1, 0}, {[]float64{1, 3}, 1 << 62, 1}, {[]float64{3, 1}, 3<<62 - 1, 0}, {[]float64{3, 1}, 3 << 62, 1},
		{[]float64{1, 1, 1}, third - 2048, 0}, {[]float64{1, 1, 1}, third + 2048, 1}, {[]float64{1, 1, 1}, 2*third + 4096, 2},
		{many(64, 1), 0, 0}, {many(64, 1), 1<<58 - 1, 0}, {many(64, 1), 1 << 58, 1}, {many(64, 1), 63<<58 - 1, 62}, {many(64, 1), never, 63},
		{many(64, 1e9), 63 << 58, 63}, {many(64, 1e9), 63<<58 - 1, 62},
		// The lowest eleven bits count for nothing.
		{[]float64{1, 0x1p53 - 1}[:1], 2047, 0}, {[]float64{0x1p-24, 0x1p29 - 0x1p-24}, 2047, 0}, {[]float64{0x1p-24, 0x1p29 - 0x1p-24}, 2048, 1},
		// A weight that the sum doesn't grow by is never come to.
		{[]float64{1e9, tiny}, never, 0}, {[]float64{1e9, tiny, 1e9}, half, 2}, {[]float64{tiny, 1e9}, 0, 0}, {[]float64{tiny, 1e9}, 2048, 1},
		// So small that x becomes the total: the last place that has any weight.
		{[]float64{tiny}, never, 0}, {[]float64{tiny, 0}, never, 0}, {[]float64{0, tiny}, never, 1}, {[]float64{0, tiny, 0, 0}, never, 1},
		{[]float64{tiny, 0, tiny, 0}, never, 2}, {[]float64{tiny, zero, tiny, zero}, never, 2}, {many(64, tiny), never, 63},
		// And so small that x is rounded: half of the least is 0, three quarters are one.
		{[]float64{tiny, 0}, half, 0}, {[]float64{0, tiny}, half, 1}, {[]float64{tiny, tiny}, 1 << 62, 0}, {[]float64{tiny, tiny}, 1<<62 + 2048, 1},
		{[]float64{tiny, tiny}, half, 1}, {[]float64{tiny, tiny}, 3 << 62, 1},
		// Three halves of the least are two, and five are two.
		{[]float64{tiny, tiny, 0}, 3<<62 - 2048, 1}, {many(4, tiny), 3 << 61, 2}, {many(4, tiny), 5 << 61, 2}, {many(4, tiny), 5<<61 + 2048, 3}, {many(4, tiny), 3<<61 - 2048, 1},
	} {
		if got := weigh.Pick(c.w, c.draw); got != c.want {
			t.Errorf("Pick of %v with %d: %d; want %d", c.w, c.draw, got, c.want)
		}
	}
}

func TestShare(t *testing.T) {
	for _, c := range []struct {
		w    []float64
		i    int
		want uint64
	}{
		{[]float64{1, 0, 1}, 1, 1 << 63}, {[]float64{1, 0, 1}, 2, 1 << 63}, {[]float64{1, 0, 1}, 0, 0}, {[]float64{1, 0, 1}, -1, 0},
		{[]float64{1, 0, 1}, 3, never}, {[]float64{1, 0, 1}, 4, never}, {[]float64{1, 0, 1}, math.MaxInt, never}, {[]float64{1, 0, 1}, math.MinInt, 0},
		{[]float64{1}, 1, never}, {[]float64{1, 0}, 1, never}, {[]float64{0, 1}, 1, 0}, {[]float64{zero, 1}, 1, 0}, {[]float64{0, 1, 0}, 2, never},
		{[]float64{1, 3}, 1, 1 << 62}, {[]float64{3, 1}, 1, 3 << 62}, {many(64, 1), 1, 1 << 58}, {many(64, 1), 63, 63 << 58}, {many(64, 1), 64, never},
		{many(64, 1), 65, never}, {many(64, 1e9), 32, 1 << 63}, {many(64, 1), 0, 0},
		// Where the part is no number of steps, it is the step behind it, or one that x is rounded up at.
		{[]float64{1, 1, 1}, 1, 6148914691236517888}, {[]float64{1, 1, 1}, 2, 12297829382473033728},
		// The last of all steps, and the one behind the first.
		{[]float64{0x1p29 - 0x1p-24, 0x1p-24}, 1, never - 2047}, {[]float64{0x1p-24, 0x1p29 - 0x1p-24}, 1, 2048},
		{[]float64{tiny, 1e9}, 1, 2048}, {[]float64{1e9, tiny}, 1, never}, {[]float64{1e9, tiny, 1e9}, 1, 1 << 63},
		// So small that x becomes the total, and rounds to the nearest one of few.
		{[]float64{tiny}, 1, never}, {[]float64{tiny, tiny}, 1, 1<<62 + 2048}, {[]float64{tiny, 0, tiny}, 2, 1<<62 + 2048}, {many(4, tiny), 3, 5<<61 + 2048}, {many(4, tiny), 2, 3 << 61}, {many(4, tiny), 1, 1<<61 + 2048},
	} {
		if got := weigh.Share(c.w, c.i); got != c.want {
			t.Errorf("Share of %v by %d: %d; want %d", c.w, c.i, got, c.want)
		}
	}
}

func TestWrongWeightsHaveNoChoice(t *testing.T) {
	for _, w := range wrong() {
		for _, draw := range []uint64{0, 1, 5, 1 << 63, never} {
			if got := weigh.Pick(w, draw); got != -1 {
				t.Errorf("Pick of %v with %d: %d; want -1", w, draw, got)
			}
		}
		for _, i := range []int{math.MinInt, -1, 0, 1, 2, 63, 64, 65, math.MaxInt} {
			if got := weigh.Share(w, i); got != 0 {
				t.Errorf("Share of %v by %d: %d; want 0", w, i, got)
			}
		}
	}
}

// bits is the weights as they are kept, which NaN has, too.
func bits(w []float64) []uint64 {
	var list []uint64
	for _, v := range w {
		list = append(list, math.Float64bits(v))
	}
	return list
}

func TestWeightsStayAsTheyWere(t *testing.T) {
	for _, w := range append(wrong(), right()...) {
		was := bits(w[:cap(w)])
		for k := 0; k < 2; k++ {
			weigh.Right(w)
			weigh.Total(w)
			weigh.Pick(w, never)
			weigh.Share(w, 1)
		}
		if !slices.Equal(bits(w[:cap(w)]), was) {
			t.Errorf("%v is not what it was", w)
		}
	}
}

func TestNothingIsKept(t *testing.T) {
	w := []float64{1, 0, 1}
	weigh.Pick(w, 0)
	weigh.Share(w, 1)
	copy(w, []float64{0, 0, 1})
	if weigh.Pick(w, 0) != 2 || weigh.Share(w, 2) != 0 || weigh.Total(w) != 1 {
		t.Errorf("of %v: %d, %d, %v", w, weigh.Pick(w, 0), weigh.Share(w, 2), weigh.Total(w))
	}
}

package window_test

import (
	"math"
	"math/rand"
	"testing"

	"flume/api"
	"flume/window"
)

// has asks a credit for all that can be seen of it.
func has(t *testing.T, c *window.Credit, left, held, due int) {
	t.Helper()
	if c.Left() != left || c.Held() != held || c.Due() != due {
		t.Errorf("Left %d, Held %d, Due %d; want %d, %d, %d", c.Left(), c.Held(), c.Due(), left, held, due)
	}
}

// got, free and give hold what one call answers against what is asked.
func got(t *testing.T, c *window.Credit, n int, want api.Errno) {
	t.Helper()
	if e := c.Got(n); e != want {
		t.Errorf("Got of %d: %v; want %v", n, e, want)
	}
}

func free(t *testing.T, c *window.Credit, n int, want api.Errno) {
	t.Helper()
	if e := c.Free(n); e != want {
		t.Errorf("Free of %d: %v; want %v", n, e, want)
	}
}

func give(t *testing.T, c *window.Credit, want int) {
	t.Helper()
	if n := c.Give(); n != want {
		t.Errorf("Give: %d; want %d", n, want)
	}
}

// credit is one of a window, of which so much is held, and so much freed.
func credit(t *testing.T, size, held, freed int) *window.Credit {
	t.Helper()
	c := window.New(size)
	got(t, c, held+freed, api.OK)
	free(t, c, freed, api.OK)
	return c
}

func TestCreditOfExample(t *testing.T) {
	c := window.New(10)
	got(t, c, 6, api.OK)
	free(t, c, 4, api.OK)
	has(t, c, 4, 2, 0)
	free(t, c, 1, api.OK)
	has(t, c, 4, 1, 5)
	give(t, c, 5)
	has(t, c, 9, 1, 0)
}

func TestAtFirstAllIsLeft(t *testing.T) {
	for _, c := range [][2]int{
		{1, 1}, {2, 2}, {10, 10}, {65535, 65535}, {most - 1, most - 1}, {most, most},
		// What may not be a window counts as the nearest that may.
		{0, 1}, {-1, 1}, {-most, 1}, {math.MinInt, 1},
		{most + 1, most}, {1 << 32, most}, {math.MaxInt, most},
	} {
		x := window.New(c[0])
		has(t, x, c[1], 0, 0)
		give(t, x, 0)
		has(t, x, c[1], 0, 0)
		got(t, x, c[1]+1, api.ErrRange)
		got(t, x, c[1], api.OK)
		has(t, x, 0, c[1], 0)
	}
}

func TestGot(t *testing.T) {
	for _, c := range []struct {
		n          int
		e          api.Errno
		left, held int
	}{
		{0, api.OK, 7, 3}, {1, api.OK, 6, 4}, {6, api.OK, 1, 9}, {7, api.OK, 0, 10},
		{8, api.ErrRange, 7, 3}, {10, api.ErrRange, 7, 3}, {11, api.ErrRange, 7, 3}, {math.MaxInt, api.ErrRange, 7, 3},
		{-1, api.ErrArg, 7, 3}, {-3, api.ErrArg, 7, 3}, {math.MinInt, api.ErrArg, 7, 3},
	} {
		x := credit(t, 10, 3, 0)
		got(t, x, c.n, c.e)
		has(t, x, c.left, c.held, 0)
	}
}

// What is freed is not left, till it is given.
func TestFreedIsNotLeft(t *testing.T) {
	x := credit(t, 10, 2, 8)
	got(t, x, 1, api.ErrRange)
	got(t, x, 0, api.OK)
	has(t, x, 0, 2, 8)
	give(t, x, 8)
	got(t, x, 9, api.ErrRange)
	got(t, x, 8, api.OK)
	has(t, x, 0, 10, 0)
}

func TestFree(t *testing.T) {
	for _, c := range []struct {
		n         int
		e         api.Errno
		held, due int
	}{
		{0, api.OK, 6, 0}, {1, api.OK, 5, 0}, {4, api.OK, 2, 0}, {5, api.OK, 1, 5}, {6, api.OK, 0, 6},
		{7, api.ErrArg, 6, 0}, {10, api.ErrArg, 6, 0}, {math.MaxInt, api.ErrArg, 6, 0},
		{-1, api.ErrArg, 6, 0}, {-6, api.ErrArg, 6, 0}, {math.MinInt, api.ErrArg, 6, 0},
	} {
		x := credit(t, 10, 6, 0)
		free(t, x, c.n, c.e)
		has(t, x, 4, c.held, c.due)
	}
}

// What was freed is not held: it can't be freed again.
func TestFreeTwice(t *testing.T) {
	x := credit(t, 10, 2, 4)
	free(t, x, 3, api.ErrArg)
	has(t, x, 4, 2, 0)
	free(t, x, 2, api.OK)
	free(t, x, 1, api.ErrArg)
	has(t, x, 4, 0, 6)
}

func TestDueFromHalfOn(t *testing.T) {
	for _, c := range []struct{ size, freed, due int }{
		{1, 0, 0}, {1, 1, 1}, {2, 0, 0}, {2, 1, 1}, {2, 2, 2}, {3, 1, 0}, {3, 2, 2}, {3, 3, 3},
		{4, 1, 0}, {4, 2, 2}, {5, 2, 0}, {5, 3, 3},
		{10, 4, 0}, {10, 5, 5}, {11, 5, 0}, {11, 6, 6},
		{65535, 32767, 0}, {65535, 32768, 32768}, {65535, 65535, 65535},
		{most - 1, 1<<30 - 2, 0}, {most - 1, 1<<30 - 1, 1<<30 - 1},
		{most, 1<<30 - 1, 0}, {most, 1 << 30, 1 << 30}, {most, most, most},
	} {
		// That which is not freed counts the same, be it left or held.
		for _, held := range []int{0, c.size - c.freed} {
			x := credit(t, c.size, held, c.freed)
			has(t, x, c.size-c.freed-held, held, c.due)
			give(t, x, c.due)
			has(t, x, c.size-c.freed-held+c.due, held, 0)
			give(t, x, 0)
		}
	}
}

// What was not enough to be given is not lost.
func TestFreedGrows(t *testing.T) {
	x := window.New(10)
	for range 20 {
		for i := range 5 {
			has(t, x, 10-i, 0, 0)
			give(t, x, 0)
			got(t, x, 1, api.OK)
			free(t, x, 1, api.OK)
		}
		has(t, x, 5, 0, 5)
		give(t, x, 5)
	}
	has(t, x, 10, 0, 0)
}

// Asking changes nothing, and neither does what is refused.
func TestAskingChangesNothing(t *testing.T) {
	x := credit(t, 10, 1, 5)
	for range 3 {
		has(t, x, 4, 1, 5)
		got(t, x, 5, api.ErrRange)
		got(t, x, -1, api.ErrArg)
		free(t, x, 2, api.ErrArg)
		free(t, x, -1, api.ErrArg)
	}
	give(t, x, 5)
	has(t, x, 9, 1, 0)
}

// Two credits have nothing to do with each other: R3.
func TestCreditsAreApart(t *testing.T) {
	a, b := window.New(10), window.New(10)
	got(t, a, 6, api.OK)
	free(t, a, 5, api.OK)
	has(t, b, 10, 0, 0)
	got(t, b, 3, api.OK)
	has(t, a, 4, 1, 5)
	give(t, a, 5)
	has(t, b, 7, 3, 0)
}

// step does one of the calls with both, and holds their answers together.
func step(t *testing.T, x *window.Credit, m model, which, n int) {
	t.Helper()
	switch which {
	case 0:
		got(t, x, n, m.got(n))
	case 1:
		free(t, x, n, m.free(n))
	default:
		give(t, x, m.give())
	}
	has(t, x, m.count(octetLeft), m.count(octetHeld), m.due())
}

func TestCreditIsAsThePlainModelInEachState(t *testing.T) {
	for size := 1; size <= 9; size++ {
		for held := range size + 1 {
			for freed := range size - held + 1 {
				for n := -2; n <= size+2; n++ {
					for which := range 3 {
						m := newModel(size)
						m.turn(held, octetLeft, octetHeld)
						m.turn(freed, octetLeft, octetFreed)
						step(t, credit(t, size, held, freed), m, which, n)
					}
				}
			}
		}
	}
}

func TestCreditIsAsThePlainModel(t *testing.T) {
	r := rand.New(rand.NewSource(3))
	for range 300 {
		size := 1 + r.Intn(60)
		x, m := window.New(size), newModel(size)
		for range 200 {
			step(t, x, m, r.Intn(3), r.Intn(size/2+4)-1)
		}
	}
}

// Never more is granted than was freed, nor freed than came, nor does more
// come than was granted; all of it counts up to the window, at any size.
func TestGrantedIsWhatWasFreed(t *testing.T) {
	r := rand.New(rand.NewSource(4))
	for _, size := range []int{1, 2, 3, 16384, 65535, most - 1, most} {
		x := window.New(size)
		came, freed, granted := 0, 0, 0
		for range 5000 {
			if n := r.Intn(size + 1); x.Got(n) == api.OK {
				came += n
			}
			if n := r.Intn(size + 1); x.Free(n) == api.OK {
				freed += n
			}
			granted += x.Give()
			if granted > freed || freed > came || came > size+granted {
				t.Fatalf("window %d: came %d, freed %d, granted %d", size, came, freed, granted)
			}
			if x.Left() != size+granted-came || x.Held() != came-freed || x.Left()+x.Held()+freed-granted != size {
				t.Fatalf("window %d: came %d, freed %d, granted %d: Left %d, Held %d", size, came, freed, granted, x.Left(), x.Held())
			}
		}
	}
}

// The same calls have the same answers: R4.
func TestSameCallsSameAnswers(t *testing.T) {
	told := func() []int {
		r := rand.New(rand.NewSource(5))
		x := window.New(1000)
		var out []int
		for range 1000 {
			out = append(out, int(x.Got(r.Intn(1000))), int(x.Free(r.Intn(1000))), x.Due(), x.Give(), x.Left(), x.Held())
		}
		return out
	}
	a, b := told(), told()
	for i := range a {
		if a[i] != b[i] {
			t.Fatalf("answer %d: %d and %d", i, a[i], b[i])
		}
	}
}

func FuzzCredit(f *testing.F) {
	f.Add(10, []byte{6, 68, 65, 128})
	f.Add(1, []byte{1, 65, 128})
	f.Fuzz(func(t *testing.T, size int, calls []byte) {
		size = 1 + (size&127)%50
		x, m := window.New(size), newModel(size)
		for _, call := range calls {
			step(t, x, m, int(call>>6)%3, int(call&63)-2)
		}
	})
}

package weigh_test

import (
	"math"
	"math/big"
	"slices"
)

// The plain model reckons with fractions, which lose nothing, and rounds where
// the chapter has a float64: each step is then the float64 that is nearest.

// exact is v as a fraction; v is finite.
func exact(v float64) *big.Rat {
	return new(big.Rat).SetFloat64(v)
}

// nearest is r rounded to a float64.
func nearest(r *big.Rat) float64 {
	v, _ := r.Float64()
	return v
}

// plainRight is Right by the words of the chapter.
func plainRight(w []float64) bool {
	if len(w) == 0 || len(w) > 64 {
		return false
	}
	for _, v := range w {
		if math.IsNaN(v) || math.IsInf(v, 0) {
			return false
		}
		if r := exact(v); r.Sign() < 0 || r.Cmp(big.NewRat(1000000000, 1)) > 0 {
			return false
		}
	}
	for _, v := range w {
		if exact(v).Sign() != 0 {
			return true
		}
	}
	return false
}

// plainSum is the sum of w, rounded behind each weight.
func plainSum(w []float64) float64 {
	s := new(big.Rat)
	for _, v := range w {
		s = exact(nearest(new(big.Rat).Add(s, exact(v))))
	}
	return nearest(s)
}

// plainTotal is Total by the words of the chapter.
func plainTotal(w []float64) float64 {
	if !plainRight(w) {
		return 0
	}
	return plainSum(w)
}

// plainPoint is the x of a draw: its highest 53 bits, divided, and times the total.
func plainPoint(total float64, draw uint64) float64 {
	high := new(big.Rat).SetInt(new(big.Int).SetUint64(draw / 2048))
	part := exact(nearest(high.Quo(high, new(big.Rat).SetInt(new(big.Int).Lsh(big.NewInt(1), 53)))))
	return nearest(part.Mul(part, exact(total)))
}

// plainPick is Pick by the words of the chapter: each place's sum is reckoned
// on its own.
func plainPick(w []float64, draw uint64) int {
	if !plainRight(w) {
		return -1
	}
	x := plainPoint(plainSum(w), draw)
	for i := range w {
		if plainSum(w[:i+1]) > x {
			return i
		}
	}
	for i := len(w) - 1; ; i-- {
		if w[i] > 0 {
			return i
		}
	}
}

// plainShare is Share by the words of the chapter, without a search: place i
// or a later one is picked once x is not below the sum ahead of i; and x comes
// to be that where the number before it was rounded is above the middle
// between the sum and the float64 below it, or is that middle and the sum is
// the even one of both.
func plainShare(w []float64, i int) uint64 {
	if !plainRight(w) || i <= 0 {
		return 0
	}
	if i >= len(w) || slices.Max(w[i:]) == 0 {
		return math.MaxUint64
	}
	ahead := plainSum(w[:i])
	if ahead == 0 {
		return 0
	}
	middle := new(big.Rat).Add(exact(ahead), exact(math.Nextafter(ahead, 0)))
	middle.Quo(middle, big.NewRat(2, 1))
	all := new(big.Rat).SetInt(new(big.Int).Lsh(big.NewInt(1), 53))
	part := middle.Quo(middle.Mul(middle, all), exact(plainSum(w)))
	step, rest := new(big.Int).QuoRem(part.Num(), part.Denom(), new(big.Int))
	if rest.Sign() > 0 || math.Float64bits(ahead)%2 == 1 {
		step.Add(step, big.NewInt(1))
	}
	if step.Cmp(all.Num()) >= 0 {
		return math.MaxUint64
	}
	return step.Uint64() * 2048
}

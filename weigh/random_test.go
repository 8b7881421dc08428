package weigh_test

import (
	"encoding/binary"
	"math"
	"math/rand"
	"testing"

	"flume/weigh"
)

// agree holds all calls against the plain model, for these draws and places.
func agree(t *testing.T, w []float64, draws []uint64, places []int) {
	t.Helper()
	if got, want := weigh.Right(w), plainRight(w); got != want {
		t.Fatalf("Right of %v: %v; want %v", w, got, want)
	}
	if got, want := weigh.Total(w), plainTotal(w); got != want || math.Signbit(got) {
		t.Fatalf("Total of %v: %v; want %v", w, got, want)
	}
	for _, draw := range draws {
		if got, want := weigh.Pick(w, draw), plainPick(w, draw); got != want {
			t.Fatalf("Pick of %v with %d: %d; want %d", w, draw, got, want)
		}
	}
	for _, i := range places {
		if got, want := weigh.Share(w, i), plainShare(w, i); got != want {
			t.Fatalf("Share of %v by %d: %d; want %d", w, i, got, want)
		}
	}
}

// follows holds what the chapter says follows, at each place's own draws.
func follows(t *testing.T, w []float64) {
	t.Helper()
	was := uint64(0)
	for i := 1; i <= len(w)+1; i++ {
		share := weigh.Share(w, i)
		if share < was {
			t.Fatalf("Share of %v by %d: %d, less than %d", w, i, share, was)
		}
		was = share
		if share == never {
			if got := weigh.Pick(w, never); got >= i {
				t.Fatalf("Share of %v by %d: none; but the greatest draw picks %d", w, i, got)
			}
			continue
		}
		if share%2048 != 0 {
			t.Fatalf("Share of %v by %d: %d", w, i, share)
		}
		at := weigh.Pick(w, share)
		if at < i || w[at] == 0 || weigh.Pick(w, share|2047) != at {
			t.Fatalf("Share of %v by %d: %d, which picks %d", w, i, share, at)
		}
		if share > 0 && weigh.Pick(w, share-1) >= i {
			t.Fatalf("Share of %v by %d: %d; but one less picks %d", w, i, share, weigh.Pick(w, share-1))
		}
	}
}

func TestEndsAgainstTheModel(t *testing.T) {
	all := draws()
	for k, w := range append(wrong(), right()...) {
		few := all
		if len(w) > 20 {
			few = all[:60]
		}
		places := []int{math.MinInt, -1, 0, 1, 2, 3, 4, 62, 63, 64, 65, math.MaxInt}
		agree(t, w, few, places)
		if k >= len(wrong()) {
			follows(t, w)
		}
	}
}

// some is a random weight; most are right, of many sizes.
func some(r *rand.Rand, kind int) float64 {
	switch kind {
	case 0:
		return float64(r.Intn(4))
	case 1:
		return r.Float64() * 1e9
	case 2:
		return math.Float64frombits(uint64(r.Intn(5)))
	case 3:
		return math.Ldexp(r.Float64(), r.Intn(1100)-1075)
	case 4:
		return math.Float64frombits(uint64(r.Int63n(1 << 54)))
	case 5:
		return []float64{0, zero, 1, 1e9, tiny, 0x1p-1022, 0.1, 1e9 - 1e-7, 1e-8}[r.Intn(9)]
	case 6:
		return math.Float64frombits(r.Uint64())
	default:
		return some(r, r.Intn(6))
	}
}

// draw is a random draw; many are near an end, or near a part that is told.
func draw(r *rand.Rand, near uint64) uint64 {
	switch r.Intn(5) {
	case 0:
		return uint64(r.Intn(5000))
	case 1:
		return never - uint64(r.Intn(5000))
	case 2:
		return near + uint64(r.Intn(9000)) - 4500
	default:
		return r.Uint64()
	}
}

func TestRandomWeightsAgainstTheModel(t *testing.T) {
	r := rand.New(rand.NewSource(14))
	for range 12000 {
		kind := r.Intn(9)
		w := make([]float64, r.Intn(6))
		if r.Intn(50) == 0 {
			w = make([]float64, 60+r.Intn(7))
		}
		for i := range w {
			w[i] = some(r, kind)
		}
		place := r.Intn(len(w)+3) - 1
		near := weigh.Share(w, place)
		var list []uint64
		for range 6 {
			list = append(list, draw(r, near))
		}
		agree(t, w, list, []int{place})
		if weigh.Right(w) {
			follows(t, w)
		}
	}
}

func TestGreaterDrawsPickNoEarlierPlace(t *testing.T) {
	r := rand.New(rand.NewSource(41))
	for _, w := range right() {
		for range 500 {
			a, b := draw(r, weigh.Share(w, 1)), draw(r, weigh.Share(w, 2))
			at, behind := weigh.Pick(w, min(a, b)), weigh.Pick(w, max(a, b))
			if at > behind || w[at] == 0 || w[behind] == 0 {
				t.Fatalf("of %v: %d picks %d, %d picks %d", w, min(a, b), at, max(a, b), behind)
			}
		}
	}
}

// TestPartsAreAsTheWeights: of draws that lie evenly, each place has the part
// of its weight.
func TestPartsAreAsTheWeights(t *testing.T) {
	w, got := []float64{1, 2, 0, 4, 9}, make([]int, 5)
	for k := range uint64(16) {
		got[weigh.Pick(w, k<<60)]++
	}
	for i, v := range w {
		if got[i] != int(v) {
			t.Errorf("place %d: %d; want %v", i, got[i], v)
		}
	}
}

func FuzzWeigh(f *testing.F) {
	f.Add([]byte{}, uint64(0), 0)
	f.Add(make([]byte, 8*65), never, 1)
	f.Add(binary.LittleEndian.AppendUint64(nil, math.Float64bits(0.5)), uint64(1)<<63, 1)
	f.Fuzz(func(t *testing.T, octets []byte, draw uint64, place int) {
		var w []float64
		for len(octets) >= 8 {
			w = append(w, math.Float64frombits(binary.LittleEndian.Uint64(octets)))
			octets = octets[8:]
		}
		agree(t, w, []uint64{draw}, []int{place})
		if weigh.Right(w) {
			follows(t, w)
		}
	})
}

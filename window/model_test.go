package window_test

import (
	"math/big"
	"sort"

	"flume/api"
)

// inBounds tells whether a number is from least to greatest; numbers of any
// size are held against each other, so that no sum can wrap round.
func inBounds(n *big.Int, least, greatest int64) bool {
	return n.Cmp(big.NewInt(least)) >= 0 && n.Cmp(big.NewInt(greatest)) <= 0
}

func large(n int) *big.Int {
	return big.NewInt(int64(n))
}

func mayBeWindow(n *big.Int) bool {
	return inBounds(n, -(1<<31 - 1), 1<<31-1)
}

func mayBeFirst(n *big.Int) bool {
	return inBounds(n, 0, 1<<31-1)
}

// plainGive is Give by the words of the chapter.
func plainGive(w, inc int) answer {
	sum := new(big.Int).Add(large(w), large(inc))
	switch {
	case !mayBeWindow(large(w)), !inBounds(large(inc), 1, 1<<31-1):
		return answer{0, api.ErrArg}
	case sum.Cmp(big.NewInt(1<<31-1)) > 0:
		return answer{0, api.ErrRange}
	default:
		return answer{int(sum.Int64()), api.OK}
	}
}

// plainTake is Take by the words of the chapter.
func plainTake(w, n int) answer {
	rest := new(big.Int).Sub(large(w), large(n))
	switch {
	case !mayBeWindow(large(w)), large(n).Sign() < 0:
		return answer{0, api.ErrArg}
	case n == 0:
		return answer{w, api.OK}
	case rest.Sign() < 0:
		return answer{0, api.ErrRange}
	default:
		return answer{int(rest.Int64()), api.OK}
	}
}

// plainShift is Shift by the words of the chapter.
func plainShift(w, was, is int) answer {
	becomes := new(big.Int).Sub(large(w), large(was))
	becomes.Add(becomes, large(is))
	switch {
	case !mayBeWindow(large(w)), !mayBeFirst(large(was)), !mayBeFirst(large(is)):
		return answer{0, api.ErrArg}
	case !mayBeWindow(becomes):
		return answer{0, api.ErrRange}
	default:
		return answer{int(becomes.Int64()), api.OK}
	}
}

// plainMost is Most by the words of the chapter.
func plainMost(four ...int) int {
	sort.Ints(four)
	if four[0] < 0 {
		return 0
	}
	return four[0]
}

// What an octet of a model's window is.
const (
	octetLeft  = 'l'
	octetHeld  = 'h'
	octetFreed = 'f'
)

// model is a credit that knows each octet of its window.
type model []byte

func newModel(window int) model {
	m := make(model, window)
	for i := range m {
		m[i] = octetLeft
	}
	return m
}

func (m model) count(what byte) int {
	n := 0
	for _, octet := range m {
		if octet == what {
			n++
		}
	}
	return n
}

// turn makes n octets, that are one thing, another one.
func (m model) turn(n int, from, to byte) {
	for i := range m {
		if n > 0 && m[i] == from {
			m[i] = to
			n--
		}
	}
}

func (m model) got(n int) api.Errno {
	switch {
	case n < 0:
		return api.ErrArg
	case n > m.count(octetLeft):
		return api.ErrRange
	}
	m.turn(n, octetLeft, octetHeld)
	return api.OK
}

func (m model) free(n int) api.Errno {
	if n < 0 || n > m.count(octetHeld) {
		return api.ErrArg
	}
	m.turn(n, octetHeld, octetFreed)
	return api.OK
}

func (m model) due() int {
	freed := m.count(octetFreed)
	if 2*freed >= len(m) {
		return freed
	}
	return 0
}

func (m model) give() int {
	due := m.due()
	m.turn(due, octetFreed, octetLeft)
	return due
}

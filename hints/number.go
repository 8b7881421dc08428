package hints

import "math"

const (
	// Of each octet behind the prefix, the highest bit tells that one more
	// follows, and the others belong to the number.
	groupBits = 7
	moreBit   = 1 << groupBits
	// mostBehind is how many octets may be behind the prefix (C1).
	mostBehind = 5
)

// mustBePrefix gives up by what is no prefix's length.
func mustBePrefix(prefix int) {
	if prefix < 1 || prefix > mostPrefix {
		panic(wrongArgument{})
	}
}

// fullPrefix is the prefix that says that octets follow: all its bits are 1.
func fullPrefix(prefix int) byte {
	return math.MaxUint8 >> (mostPrefix - prefix)
}

// numberOctets is the octets of a number, the other bits of the first one
// being those of first.
func numberOctets(first byte, prefix int, v int) []byte {
	full := fullPrefix(prefix)
	others := first &^ full
	if v < int(full) {
		return []byte{others | byte(v)}
	}
	out := []byte{others | full}
	rest := v - int(full)
	for rest >= moreBit {
		out = append(out, byte(rest%moreBit)|moreBit)
		rest /= moreBit
	}
	return append(out, byte(rest))
}

// number reads a number whose prefix has so many bits.
func (r *reading) number(prefix int) int {
	full := fullPrefix(prefix)
	head := r.octet() & full
	if head < full {
		return int(head)
	}
	return r.numberBehind(int64(full))
}

// numberBehind reads the octets behind a full prefix. 64 bits have room for all
// that five octets say, whatever the size of an int is.
func (r *reading) numberBehind(number int64) int {
	for i := 0; ; i++ {
		octet := r.octet()
		if i == mostBehind {
			panic(senseless{})
		}
		number += int64(octet%moreBit) << (i * groupBits)
		if number > MostInt {
			panic(senseless{})
		}
		if octet < moreBit {
			return int(number)
		}
	}
}

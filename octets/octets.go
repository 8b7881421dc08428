// Package octets is layer 1: see shared/doc/01-octets.md.
package octets

// mostNumber is how many octets a uint64 has.
const mostNumber = 8

// Uint is the number whose n octets, the highest first, b begins with (A1).
func Uint(b []byte, n int) (uint64, bool) {
	if !hasWidth(n) || len(b) < n {
		return 0, false
	}
	var v uint64
	for _, octet := range b[:n] {
		v = v<<8 | uint64(octet)
	}
	return v, true
}

// Put is b, and behind it the lowest n octets of v, the highest first (A1).
// It is laid in memory of its own: an append could write into room behind b
// that is somebody else's, and would share b with the caller.
func Put(b []byte, v uint64, n int) []byte {
	if !hasWidth(n) {
		n = 0
	}
	out := make([]byte, len(b)+n)
	copy(out, b)
	for i := len(out) - 1; i >= len(b); i-- {
		out[i] = byte(v)
		v >>= 8
	}
	return out
}

// hasWidth tells whether a number may have n octets.
func hasWidth(n int) bool {
	return n >= 1 && n <= mostNumber
}

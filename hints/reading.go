package hints

import (
	"math"

	"flume/api"
	"flume/huffman"
)

// What is wrong within is given up as one of these, and what huffman says is
// wrong as its Errno: the depth at which it is found need not matter to what
// lies between.
type (
	wrongArgument struct{}
	cutShort      struct{}
	senseless     struct{}
)

// errnoOf tells what was given up; that is nothing when all went well.
func errnoOf(cause any) api.Errno {
	switch cause := cause.(type) {
	case nil:
		return api.OK
	case wrongArgument:
		return api.ErrArg
	case cutShort:
		return api.ErrMore
	case api.Errno:
		return cause
	default: // senseless
		return api.ErrForm
	}
}

// reading goes through octets from the left; those ahead of place are read.
type reading struct {
	octets []byte
	place  int
}

// octet reads one.
func (r *reading) octet() byte {
	return r.next(1)[0]
}

// next reads so many. Their number is held against the length, as what the
// octets' owner keeps behind it does not count.
func (r *reading) next(n int) []byte {
	if len(r.octets)-r.place < n {
		panic(cutShort{})
	}
	from := r.place
	r.place += n
	return r.octets[from:r.place]
}

// text reads a text.
func (r *reading) text() string {
	length := r.number(textPrefix)
	octets := r.next(length)
	if r.octets[0]&packedBit == 0 {
		return string(octets)
	}
	text, e := huffman.Decode(octets, math.MaxInt)
	if e != api.OK {
		panic(e)
	}
	return text
}

package frame

import (
	"flume/api"
	"flume/octets"
)

// Write is a frame's octets (F1).
func Write(f api.Frame) ([]byte, api.Errno) {
	if !mayBe(f) {
		return nil, api.ErrArg
	}
	must := mustOf(f)
	length := len(must) + len(f.Payload) + f.Pad
	if length > api.MostFrame {
		return nil, api.ErrLong
	}
	b := make(writing, 0, api.FrameHead+length)
	b.put(length, lengthOctets)
	b.put(f.Kind, octet)
	b.put(flagsOf(f), octet)
	b.put(f.Stream, wordOctets)
	if f.Pad > 0 {
		b.put(f.Pad-1, octet)
	}
	b = append(b, must...)
	b = append(b, f.Payload...)
	if f.Pad > 0 {
		b = append(b, make([]byte, f.Pad-1)...)
	}
	return b, api.OK
}

// writing is octets behind which others are put.
type writing []byte

func (w *writing) put(v, n int) {
	*w = append(*w, octets.Put(nil, uint64(v), n)...)
}

// flagsOf is the flags of a frame that may be. It has either Flags or parts
// that ask for some.
func flagsOf(f api.Frame) int {
	flags := f.Flags
	has := filled(f)
	for _, x := range flagBits {
		if has.has(x.part) {
			flags |= x.bit
		}
	}
	return flags
}

// mustOf is what stands in the payload of a frame that may be, beside its
// Payload and the padding. Only Last and Code stand together in one.
func mustOf(f api.Frame) []byte {
	var b writing
	has := partsOf(f)
	if has.has(hasPriority) {
		b.put(dependWord(f), wordOctets)
		b.put(f.Weight-1, octet)
	}
	if has.has(hasLast) {
		b.put(f.Last, wordOctets)
	}
	if has.has(hasCode) {
		b.put(int(f.Code), wordOctets)
	}
	for _, s := range f.List {
		b.put(s.ID, idOctets)
		b.put(int(s.Value), wordOctets)
	}
	if has.has(hasInc) {
		b.put(f.Inc, wordOctets)
	}
	return b
}

func dependWord(f api.Frame) int {
	if f.Exclusive {
		return f.Depend | highestBit
	}
	return f.Depend
}

// mayBe tells whether a frame may be written, however long it is.
func mayBe(f api.Frame) bool {
	return isIn(f.Kind, 0, mostOctet) &&
		isIn(f.Stream, 0, api.MostStream) &&
		shapeOf(f.Kind).place.allows(f.Stream) &&
		!filled(f).has(^partsOf(f)) &&
		isInBounds(f)
}

// partsOf is what a frame can have, by its kind. Prio asks for more, whatever
// the kind: those that can't have it are refused for Prio itself.
func partsOf(f api.Frame) parts {
	p := shapeOf(f.Kind).parts
	if f.Prio {
		p |= hasPriority
	}
	return p
}

// filled is what of a frame is not zero.
func filled(f api.Frame) parts {
	return partIf(hasEnd, f.End) |
		partIf(hasEndHeaders, f.EndHeaders) |
		partIf(hasAck, f.Ack) |
		partIf(hasPad, f.Pad != 0) |
		partIf(hasPrio, f.Prio) |
		partIf(hasPriority, f.Depend != 0 || f.Exclusive || f.Weight != 0) |
		partIf(hasPayload, len(f.Payload) > 0) |
		partIf(hasFlags, f.Flags != 0) |
		partIf(hasList, len(f.List) > 0) |
		partIf(hasLast, f.Last != 0) |
		partIf(hasCode, f.Code != 0) |
		partIf(hasInc, f.Inc != 0)
}

func partIf(p parts, is bool) parts {
	if is {
		return p
	}
	return 0
}

// isInBounds tells whether what a frame has is as it may be. What it does not
// have is zero, and within all bounds that begin there.
func isInBounds(f api.Frame) bool {
	has := partsOf(f)
	return isIn(f.Pad, 0, mostPad) &&
		isIn(f.Depend, 0, api.MostStream) &&
		(isIn(f.Weight, 1, mostWeight) || !has.has(hasPriority)) &&
		isIn(f.Flags, 0, mostOctet) &&
		isIn(f.Last, 0, api.MostStream) &&
		(f.Last != 0 || f.Kind != api.PushPromise) &&
		(isIn(f.Inc, 1, api.MostWindow) || !has.has(hasInc)) &&
		areSettings(f.List) &&
		(len(f.List) == 0 || !f.Ack) &&
		(len(f.Payload) == pingOctets || f.Kind != api.Ping)
}

func areSettings(l []api.Setting) bool {
	for _, s := range l {
		if !isIn(s.ID, 0, mostID) {
			return false
		}
	}
	return true
}

func isIn(n, least, most int) bool {
	return n >= least && n <= most
}

package huffman

// walk is how far a code has been read, bit by bit. The zero walk has read
// nothing.
type walk struct {
	bits  int    // how many bits are read
	value uint32 // these bits as a number
	first uint32 // the first code of that length
	start int    // the place of that code's symbol
}

// step reads a bit more, and tells whether the bits are a code now. Else they
// lie behind all codes of that length, as the codes of one length are in a row.
func (w *walk) step(bit byte) bool {
	shorter := counts[w.bits]
	w.start += int(shorter)
	w.first = (w.first + shorter) << 1
	w.value = w.value<<1 | uint32(bit)
	w.bits++
	return w.value-w.first < counts[w.bits]
}

// place tells where the symbol stands whose code was read.
func (w *walk) place() int {
	return w.start + int(w.value-w.first)
}

// isPadding tells whether the bits that are no code may fill up an octet.
func (w *walk) isPadding() bool {
	return w.bits < octetBits && w.value == 1<<w.bits-1
}

package huffman

const (
	// eos is the symbol of the end, that stands in no text.
	eos         = 256
	symbolCount = eos + 1
	mostBits    = 30
)

// counts tells of each length how many symbols have a code of so many bits.
var counts = [mostBits + 1]uint32{
	5: 10, 6: 26, 7: 32, 8: 6, 10: 5, 11: 3, 12: 2, 13: 6, 14: 2, 15: 3,
	19: 3, 20: 8, 21: 13, 22: 26, 23: 29, 24: 12, 25: 4, 26: 15, 27: 19, 28: 29,
	30: 4,
}

// code is a row of bits, read as a number, and how many they are.
type code struct {
	value uint32
	bits  int
}

// codes tells each symbol's code. One length's codes follow on those of the
// length ahead of it, so that lengths which no symbol has only double the next.
func codes() [symbolCount]code {
	var out [symbolCount]code
	symbols := symbolsByCode()
	next, place := uint32(0), 0
	for bits := range len(counts) {
		next <<= 1
		for range counts[bits] {
			out[symbols[place]] = code{value: next, bits: bits}
			next++
			place++
		}
	}
	return out
}

// symbolsByCode tells the symbols in the order of their codes: by the codes'
// lengths, and of one length from the least symbol on.
func symbolsByCode() [symbolCount]int16 {
	return [symbolCount]int16{
		48, 49, 50, 97, 99, 101, 105, 111, 115, 116,
		32, 37, 45, 46, 47, 51, 52, 53, 54, 55, 56, 57, 61, 65, 95, 98,
		100, 102, 103, 104, 108, 109, 110, 112, 114, 117,
		58, 66, 67, 68, 69, 70, 71, 72, 73, 74, 75, 76, 77, 78, 79, 80,
		81, 82, 83, 84, 85, 86, 87, 89, 106, 107, 113, 118, 119, 120, 121, 122,
		38, 42, 44, 59, 88, 90,
		33, 34, 40, 41, 63,
		39, 43, 124,
		35, 62,
		0, 36, 64, 91, 93, 126,
		94, 125,
		60, 96, 123,
		92, 195, 208,
		128, 130, 131, 162, 184, 194, 224, 226,
		153, 161, 167, 172, 176, 177, 179, 209, 216, 217, 227, 229, 230,
		129, 132, 133, 134, 136, 146, 154, 156, 160, 163, 164, 169, 170, 173, 178, 181,
		185, 186, 187, 189, 190, 196, 198, 228, 232, 233,
		1, 135, 137, 138, 139, 140, 141, 143, 147, 149, 150, 151, 152, 155, 157, 158,
		165, 166, 168, 174, 175, 180, 182, 183, 188, 191, 197, 231, 239,
		9, 142, 144, 145, 148, 159, 171, 206, 215, 225, 236, 237,
		199, 207, 234, 235,
		192, 193, 200, 201, 202, 205, 210, 213, 218, 219, 238, 240, 242, 243, 255,
		203, 204, 211, 212, 214, 221, 222, 223, 241, 244, 245, 246, 247, 248, 250, 251,
		252, 253, 254,
		2, 3, 4, 5, 6, 7, 8, 11, 12, 14, 15, 16, 17, 18, 19, 20,
		21, 23, 24, 25, 26, 27, 28, 29, 30, 31, 127, 220, 249,
		10, 13, 22, 256,
	}
}

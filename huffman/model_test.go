package huffman_test

import (
	"math/rand"
	"strings"

	"flume/api"
)

// bitsOfSymbol is a symbol's code, written with 0 and 1.
func bitsOfSymbol(symbol int) string {
	return bitsOfNumber(uint64(rfcCodes[symbol].code), rfcCodes[symbol].bits)
}

// bitsOfNumber is a number by its lowest n bits, the highest first.
func bitsOfNumber(v uint64, n int) string {
	var out strings.Builder
	for i := n - 1; i >= 0; i-- {
		out.WriteByte('0' + byte(v>>i)&1)
	}
	return out.String()
}

// bitsOfText is the codes of a text's octets, one behind the other.
func bitsOfText(s string) string {
	var out strings.Builder
	for i := 0; i < len(s); i++ {
		out.WriteString(bitsOfSymbol(int(s[i])))
	}
	return out.String()
}

// octetsOfBits fills bits up with ones, and lays them in octets.
func octetsOfBits(bits string) []byte {
	for len(bits)%8 != 0 {
		bits += "1"
	}
	out := make([]byte, len(bits)/8)
	for i := 0; i < len(bits); i++ {
		out[i/8] = out[i/8]<<1 + bits[i] - '0'
	}
	return out
}

// symbolByBits is the symbol of each code that is written with 0 and 1.
func symbolByBits() map[string]int {
	out := map[string]int{}
	for symbol := range rfcCodes {
		out[bitsOfSymbol(symbol)] = symbol
	}
	return out
}

// modelDecode reads codes as the chapter's words say it, one prefix after the
// other.
func modelDecode(symbols map[string]int, b []byte, most int) (string, api.Errno) {
	var all strings.Builder
	for _, octet := range b {
		all.WriteString(bitsOfNumber(uint64(octet), 8))
	}
	left, text := all.String(), ""
	for {
		symbol, n := firstSymbol(symbols, left)
		switch {
		case n == 0 && (len(left) >= 8 || strings.Contains(left, "0")):
			return "", api.ErrForm
		case n == 0:
			return text, api.OK
		case symbol == 256:
			return "", api.ErrForm
		case len(text) >= most:
			return "", api.ErrLong
		}
		text += string([]byte{byte(symbol)})
		left = left[n:]
	}
}

// firstSymbol is the symbol with whose code the bits begin, and how many bits
// it has; 0 bits, if there is none.
func firstSymbol(symbols map[string]int, bits string) (int, int) {
	for n := 1; n <= len(bits) && n <= 30; n++ {
		if symbol, ok := symbols[bits[:n]]; ok {
			return symbol, n
		}
	}
	return 0, 0
}

// someText is a text of any octets, or, half of the time, of everyday ones.
func someText(r *rand.Rand, n int) string {
	out := make([]byte, n)
	everyday := r.Intn(2) == 0
	for i := range out {
		out[i] = byte(r.Intn(256))
		if everyday {
			out[i] = ' ' + byte(r.Intn(95))
		}
	}
	return string(out)
}

package huffman_test

import (
	"bytes"
	"math"
	"math/rand"
	"strings"
	"testing"

	"flume/api"
	"flume/huffman"
)

// examples are texts and their octets: those of the chapter, and those of the
// examples of RFC 7541, appendix C.
var examples = map[string]string{
	"":                        "",
	"a":                       "\x1f",
	"www.example.com":         "\xf1\xe3\xc2\xe5\xf2\x3a\x6b\xa0\xab\x90\xf4\xff",
	"no-cache":                "\xa8\xeb\x10\x64\x9c\xbf",
	"custom-key":              "\x25\xa8\x49\xe9\x5b\xa9\x7d\x7f",
	"custom-value":            "\x25\xa8\x49\xe9\x5b\xb8\xe8\xb4\xbf",
	"302":                     "\x64\x02",
	"307":                     "\x64\x0e\xff",
	"private":                 "\xae\xc3\x77\x1a\x4b",
	"https://www.example.com": "\x9d\x29\xad\x17\x18\x63\xc7\x8f\x0b\x97\xc8\xe9\xae\x82\xae\x43\xd3",
	"gzip":                    "\x9b\xd9\xab",
}

func TestCodeOfEachSymbol(t *testing.T) {
	for symbol, want := range rfcCodes {
		if c, n := huffman.Code(symbol); c != want.code || n != want.bits {
			t.Errorf("Code of %d: %#x, %d; want %#x, %d", symbol, c, n, want.code, want.bits)
		}
	}
}

func TestCodeOfExample(t *testing.T) {
	if c, n := huffman.Code(48); c != 0 || n != 5 {
		t.Error(c, n)
	}
	if c, n := huffman.Code(256); c != 1073741823 || n != 30 {
		t.Error(c, n)
	}
}

func TestCodeOfNoSymbol(t *testing.T) {
	for _, symbol := range []int{math.MinInt, math.MinInt32, -257, -256, -1, 257, 258, 512, 1 << 16, 1 << 32, 1<<32 + 97, math.MaxInt} {
		if c, n := huffman.Code(symbol); c != 0 || n != 0 {
			t.Errorf("Code of %d: %#x, %d", symbol, c, n)
		}
	}
}

func TestEncodeOfExamples(t *testing.T) {
	for s, want := range examples {
		if b := huffman.Encode(s); string(b) != want {
			t.Errorf("Encode of %q: %x", s, b)
		}
		if n := huffman.Size(s); n != len(want) {
			t.Errorf("Size of %q: %d", s, n)
		}
	}
}

// encodes holds Encode and Size against the codes laid in a row.
func encodes(t *testing.T, s string) {
	t.Helper()
	want := octetsOfBits(bitsOfText(s))
	if b := huffman.Encode(s); !bytes.Equal(b, want) {
		t.Errorf("Encode of %q: %x; want %x", s, b, want)
	}
	if n := huffman.Size(s); n != len(want) {
		t.Errorf("Size of %q: %d; want %d", s, n, len(want))
	}
}

func TestEncodeOfEachOctet(t *testing.T) {
	for octet := range 256 {
		encodes(t, string([]byte{byte(octet)}))
	}
}

func TestEncodeOfEachPairOfOctets(t *testing.T) {
	for first := range 256 {
		for second := range 256 {
			encodes(t, string([]byte{byte(first), byte(second)}))
		}
	}
}

func TestEncodeOfAnyText(t *testing.T) {
	r := rand.New(rand.NewSource(1))
	for range 2000 {
		encodes(t, someText(r, r.Intn(40)))
	}
	// Octets, not runes: what is no UTF-8, and what has several octets a rune.
	for _, s := range []string{"\xff\xfe", "h\u00e4nde", "\u4e16", "\xc3", "\x00\x00"} {
		encodes(t, s)
	}
}

func TestEncodeOfLongText(t *testing.T) {
	// All codes of the greatest length, and all of the least.
	encodes(t, strings.Repeat("\n", 5000))
	encodes(t, strings.Repeat("0", 5001))
	if n := huffman.Size(strings.Repeat("0", 8_000_000)); n != 5_000_000 {
		t.Error(n)
	}
}

func TestEncodeIsTheCallers(t *testing.T) {
	first := huffman.Encode("private")
	for i := range first {
		first[i] = 0
	}
	if b := huffman.Encode("private"); string(b) != examples["private"] {
		t.Errorf("%x", b)
	}
	// What is appended behind an answer must not be seen in another one.
	one, other := huffman.Encode("302"), huffman.Encode("302")
	_ = append(one, 'x')
	one[0] = 'y'
	if string(other) != examples["302"] {
		t.Errorf("%x", other)
	}
}

func TestDecodeOfExamples(t *testing.T) {
	for want, b := range examples {
		for _, most := range []int{len(want), len(want) + 1, math.MaxInt} {
			if s, e := huffman.Decode([]byte(b), most); s != want || e != api.OK {
				t.Errorf("Decode of %x, most %d: %q, %v", b, most, s, e)
			}
		}
	}
	for b, want := range map[string]api.Errno{"\xff": api.ErrForm, "\x1e": api.ErrForm} {
		if s, e := huffman.Decode([]byte(b), 9); s != "" || e != want {
			t.Errorf("Decode of %x: %q, %v", b, s, e)
		}
	}
	if s, e := huffman.Decode([]byte{0x1f}, 0); s != "" || e != api.ErrLong {
		t.Errorf("%q, %v", s, e)
	}
}

// decodes asks Decode for one answer.
func decodes(t *testing.T, b []byte, most int, want string, wantError api.Errno) {
	t.Helper()
	if s, e := huffman.Decode(b, most); s != want || e != wantError {
		t.Errorf("Decode of %x, most %d: %q, %v; want %q, %v", b, most, s, e, want, wantError)
	}
}

func TestDecodeOfNothing(t *testing.T) {
	for _, most := range []int{math.MinInt, -1, 0, 1, math.MaxInt} {
		decodes(t, nil, most, "", api.OK)
		decodes(t, []byte{}, most, "", api.OK)
	}
}

func TestDecodeOfEachOctetsCode(t *testing.T) {
	for octet := range 256 {
		text := string([]byte{byte(octet)})
		decodes(t, octetsOfBits(bitsOfSymbol(octet)), 1, text, api.OK)
		decodes(t, octetsOfBits(bitsOfSymbol(octet)+bitsOfSymbol(octet)), 2, text+text, api.OK)
	}
}

func TestDecodeOfPadding(t *testing.T) {
	// Texts whose codes end 0 to 7 bits ahead of an octet's end.
	symbols := symbolByBits()
	for free, n := range []int{8, 3, 6, 1, 4, 7, 2, 5} {
		text := strings.Repeat("0", n)
		bits := bitsOfText(text)
		if len(bits)%8 != (8-free)%8 {
			t.Fatalf("%q leaves no %d bits", text, free)
		}
		decodes(t, octetsOfBits(bits), 9, text, api.OK)
		for at := range free {
			padding := []byte(strings.Repeat("1", free))
			padding[at] = '0'
			wrong := octetsOfBits(bits + string(padding))
			want, wantError := modelDecode(symbols, wrong, 9)
			decodes(t, wrong, 9, want, wantError)
		}
		// An octet of ones more is 8 bits or more that are no code.
		decodes(t, append(octetsOfBits(bits), 0xff), 9, "", api.ErrForm)
		decodes(t, append(octetsOfBits(bits), 0xff, 0xff), 9, "", api.ErrForm)
	}
}

func TestDecodeOfBitsThatAreNoCode(t *testing.T) {
	decodes(t, []byte{0xff}, 9, "", api.ErrForm)
	decodes(t, []byte{0xff, 0xff}, 9, "", api.ErrForm)
	decodes(t, []byte{0xff, 0xff, 0xff}, 9, "", api.ErrForm)
	// The beginnings of codes, and a 0 among the bits that are left.
	decodes(t, []byte{0xfe}, 9, "", api.ErrForm)
	decodes(t, []byte{0xff, 0xf0}, 9, "", api.ErrForm)
	decodes(t, []byte{0x1f, 0xfe}, 9, "", api.ErrForm)
	decodes(t, []byte{0x1e}, 9, "", api.ErrForm)
	// No room is asked of what is no code.
	decodes(t, []byte{0xff}, 0, "", api.ErrForm)
	decodes(t, []byte{0x1f, 0xff}, 1, "", api.ErrForm)
}

func TestDecodeOfTheEnd(t *testing.T) {
	end := bitsOfSymbol(256)
	decodes(t, octetsOfBits(end), 9, "", api.ErrForm)
	decodes(t, octetsOfBits("00011"+end), 9, "", api.ErrForm)
	decodes(t, octetsOfBits(end+"00011"), 9, "", api.ErrForm)
	// The end's code is wrong be there room for it or not.
	decodes(t, octetsOfBits(end), 0, "", api.ErrForm)
	decodes(t, octetsOfBits("00011"+end), 1, "", api.ErrForm)
	// Which is met first from the left, counts.
	decodes(t, octetsOfBits("00011"+end), 0, "", api.ErrLong)
	decodes(t, octetsOfBits("0001100011"+end), 1, "", api.ErrLong)
}

func TestDecodeOfTooLong(t *testing.T) {
	for want, b := range examples {
		for most := range len(want) {
			decodes(t, []byte(b), most, "", api.ErrLong)
		}
		if want == "" {
			continue
		}
		for _, most := range []int{math.MinInt, -2, -1} {
			decodes(t, []byte(b), most, "", api.ErrLong)
		}
	}
	// A wrong end behind the octet that is too much is not reached.
	decodes(t, []byte{0x1f, 0xff}, 0, "", api.ErrLong)
	decodes(t, []byte{0x1e}, 0, "", api.ErrLong)
}

func TestDecodeOfEachTwoOctets(t *testing.T) {
	symbols := symbolByBits()
	for first := range 256 {
		for second := range 256 {
			b := []byte{byte(first), byte(second)}
			for most := range 4 {
				want, wantError := modelDecode(symbols, b, most)
				decodes(t, b, most, want, wantError)
			}
		}
	}
}

func TestDecodeOfAnyOctets(t *testing.T) {
	symbols := symbolByBits()
	r := rand.New(rand.NewSource(2))
	for range 20000 {
		b := make([]byte, r.Intn(12))
		for i := range b {
			b[i] = byte(r.Intn(256)) | byte(-r.Intn(2))
		}
		most := r.Intn(12)
		want, wantError := modelDecode(symbols, b, most)
		decodes(t, b, most, want, wantError)
		// What is taken has one row of octets.
		if wantError == api.OK && !bytes.Equal(huffman.Encode(want), b) {
			t.Errorf("Encode of Decode of %x: %x", b, huffman.Encode(want))
		}
	}
}

func TestDecodeOfEncodeIsTheText(t *testing.T) {
	r := rand.New(rand.NewSource(3))
	for range 5000 {
		text := someText(r, r.Intn(60))
		b := huffman.Encode(text)
		decodes(t, b, len(text), text, api.OK)
		if len(text) > 0 {
			decodes(t, b, len(text)-1, "", api.ErrLong)
		}
	}
	long := someText(r, 300000)
	decodes(t, huffman.Encode(long), len(long), long, api.OK)
}

func TestDecodeLeavesWhatItIsHanded(t *testing.T) {
	b := []byte(examples["private"] + "behind")
	kept := bytes.Clone(b)
	own := b[:len(examples["private"])]
	s, e := huffman.Decode(own, 7)
	if s != "private" || e != api.OK || !bytes.Equal(b, kept) {
		t.Errorf("%q, %v; %x", s, e, b)
	}
	for i := range b {
		b[i] = 0
	}
	if s != "private" {
		t.Errorf("the text hangs on the octets: %q", s)
	}
	decodes(t, []byte(examples["private"]), 7, "private", api.OK)
}

func TestSameCallsHaveSameAnswers(t *testing.T) {
	for range 3 {
		for s, b := range examples {
			encodes(t, s)
			decodes(t, []byte(b), len(s), s, api.OK)
			decodes(t, []byte("\xff"), 1, "", api.ErrForm)
		}
	}
}

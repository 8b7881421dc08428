package hints_test

import (
	"bytes"
	"math"
	"strings"
	"testing"

	"flume/api"
	"flume/hints"
	"flume/huffman"
)

// numbers are numbers in their octets: those of the chapter, of RFC 7541,
// appendix C.1, and of the edges.
var numbers = []struct {
	first  byte
	prefix int
	v      int
	want   string
}{
	{0, 5, 10, "\x0a"},
	{0, 5, 1337, "\x1f\x9a\x0a"},
	{0, 8, 42, "\x2a"},
	{0xe0, 5, 30, "\xfe"},
	{0xe0, 5, 31, "\xff\x00"},
	{0, 5, 0, "\x00"},
	{0xff, 5, 0, "\xe0"},
	{0x1f, 5, 0, "\x00"},
	{0x1f, 5, 1, "\x01"},
	{0xa5, 4, 14, "\xae"},
	{0xa5, 4, 15, "\xaf\x00"},
	{0xa5, 4, 15 + 127, "\xaf\x7f"},
	{0xa5, 4, 15 + 128, "\xaf\x80\x01"},
	{0xfe, 1, 0, "\xfe"},
	{0xff, 1, 0, "\xfe"},
	{0xfe, 1, 1, "\xff\x00"},
	{0, 1, 2, "\x01\x01"},
	{0x80, 7, 126, "\xfe"},
	{0x80, 7, 127, "\xff\x00"},
	{0xff, 8, 254, "\xfe"},
	{0xff, 8, 0, "\x00"},
	{0, 8, 255, "\xff\x00"},
	{0, 8, 255 + 1<<14, "\xff\x80\x80\x01"},
	{0, 8, 255 + 1<<21, "\xff\x80\x80\x80\x01"},
	{0, 8, 255 + 1<<28, "\xff\x80\x80\x80\x80\x01"},
	{0, 8, 254 + 1<<28, "\xff\xff\xff\xff\x7f"},
	{0, 1, hints.MostInt, "\x01\xfe\xff\xff\xff\x07"},
	{0, 8, hints.MostInt, "\xff\x80\xfe\xff\xff\x07"},
	{0x80, 7, hints.MostInt, "\xff\x80\xff\xff\xff\x07"},
}

func TestMostInt(t *testing.T) {
	if hints.MostInt != 2147483647 {
		t.Error(hints.MostInt)
	}
}

func TestPutIntOfExamples(t *testing.T) {
	for _, x := range numbers {
		if b, e := hints.PutInt(x.first, x.prefix, x.v); string(b) != x.want || e != api.OK {
			t.Errorf("PutInt of %#x, %d, %d: %x, %v; want %x", x.first, x.prefix, x.v, b, e, x.want)
		}
	}
}

func TestGetIntOfExamples(t *testing.T) {
	for _, x := range numbers {
		for _, behind := range []string{"", "\x00", "\xff", "\x80\x80\x80\x80\x80\x80\x80"} {
			if v, n, e := hints.GetInt([]byte(x.want+behind), x.prefix); v != x.v || n != len(x.want) || e != api.OK {
				t.Errorf("GetInt of %x, %d: %d, %d, %v; want %d", x.want+behind, x.prefix, v, n, e, x.v)
			}
		}
	}
}

func TestPutIntOfWrongArguments(t *testing.T) {
	for _, prefix := range []int{math.MinInt, -8, -1, 0, 9, 16, 64, 264, 1<<32 + 5, math.MaxInt} {
		for _, v := range []int{-1, 0, 1, 1337, math.MaxInt} {
			if b, e := hints.PutInt(0xff, prefix, v); b != nil || e != api.ErrArg {
				t.Errorf("PutInt by prefix %d of %d: %x, %v", prefix, v, b, e)
			}
		}
	}
	for prefix := 1; prefix <= 8; prefix++ {
		for _, v := range []int{math.MinInt, -1 << 31, -256, -1, hints.MostInt + 1, 1 << 32, 1<<32 + 10, math.MaxInt} {
			if b, e := hints.PutInt(0, prefix, v); b != nil || e != api.ErrArg {
				t.Errorf("PutInt by prefix %d of %d: %x, %v", prefix, v, b, e)
			}
		}
	}
}

// getIntErrs asks GetInt for an error alone.
func getIntErrs(t *testing.T, b string, prefix int, want api.Errno) {
	t.Helper()
	if v, n, e := hints.GetInt([]byte(b), prefix); v != 0 || n != 0 || e != want {
		t.Errorf("GetInt of %x, %d: %d, %d, %v; want %v", b, prefix, v, n, e, want)
	}
}

func TestGetIntOfWrongPrefixes(t *testing.T) {
	for _, prefix := range []int{math.MinInt, -8, -1, 0, 9, 16, 64, 264, 1<<32 + 5, math.MaxInt} {
		// Ahead of all else that is wrong.
		for _, b := range []string{"", "\x05", "\xff", "\xff\x80\x80\x80\x80\x80\x00", "\xff\xff\xff\xff\xff\x7f"} {
			getIntErrs(t, b, prefix, api.ErrArg)
		}
	}
}

func TestGetIntOfTooFewOctets(t *testing.T) {
	for prefix := 1; prefix <= 8; prefix++ {
		// None is wanting behind a prefix with a bit that is 0.
		for _, b := range []string{"", "\xff", "\xff\x80", "\xff\xff", "\xff\x80\x80\x80\x80", "\xff\xff\xff\xff\xff", "\xff\x80\x80\x80\x80\x80"} {
			getIntErrs(t, b, prefix, api.ErrMore)
		}
	}
	if v, n, e := hints.GetInt(nil, 5); v != 0 || n != 0 || e != api.ErrMore {
		t.Error(v, n, e)
	}
	getIntErrs(t, "\x1f\x9a", 5, api.ErrMore)
}

func TestGetIntLooksAtNoOctetBehindTheLength(t *testing.T) {
	whole := []byte("\x1f\x9a\x0a")
	for n := range whole {
		if v, _, e := hints.GetInt(whole[:n], 5); v != 0 || e != api.ErrMore {
			t.Errorf("of %d octets: %d, %v", n, v, e)
		}
	}
}

func TestGetIntOfTheSixthOctetBehind(t *testing.T) {
	for prefix := 1; prefix <= 8; prefix++ {
		for _, sixth := range []string{"\x00", "\x01", "\x80", "\xff"} {
			getIntErrs(t, "\xff\x80\x80\x80\x80\x80"+sixth, prefix, api.ErrForm)
			getIntErrs(t, "\xff\x81\x80\x80\x80\x84"+sixth+"\x00", prefix, api.ErrForm)
		}
	}
}

func TestGetIntOfOctetsThatAddNothing(t *testing.T) {
	for prefix := 1; prefix <= 8; prefix++ {
		full := 1<<prefix - 1
		for zeros := range 5 {
			b := "\xff" + strings.Repeat("\x80", zeros) + "\x00"
			if v, n, e := hints.GetInt([]byte(b), prefix); v != full || n != zeros+2 || e != api.OK {
				t.Errorf("GetInt of %x, %d: %d, %d, %v", b, prefix, v, n, e)
			}
		}
	}
	if v, n, e := hints.GetInt([]byte("\x1f\x9a\x8a\x80\x00"), 5); v != 1337 || n != 5 || e != api.OK {
		t.Error(v, n, e)
	}
}

func TestGetIntAboveMostInt(t *testing.T) {
	// MostInt, and one above it, of each prefix.
	for prefix := 1; prefix <= 8; prefix++ {
		b, e := hints.PutInt(0, prefix, hints.MostInt)
		if len(b) != 6 || e != api.OK {
			t.Fatalf("%x, %v", b, e)
		}
		above := append([]byte{}, b...)
		above[1]++ // its seven bits are not all 1: 2^31 - 2^prefix ends with prefix zeros
		if above[1]&0x7f == 0 {
			t.Fatalf("%x", above)
		}
		getIntErrs(t, string(above), prefix, api.ErrForm)
	}
	for _, b := range []string{"\x1f\xff\xff\xff\xff\x07", "\x1f\x80\x80\x80\x80\x08", "\x1f\x80\x80\x80\x80\x10", "\x1f\xff\xff\xff\xff\x7f", "\x1f\x80\x80\x80\x80\x40"} {
		getIntErrs(t, b, 5, api.ErrForm)
	}
	// The number is too great with the fifth octet, whether or not there is a
	// sixth one that it asks for.
	for _, b := range []string{"\x1f\xff\xff\xff\xff\xff", "\x1f\x80\x80\x80\x80\x88", "\x1f\x80\x80\x80\x80\x88\x00", "\x1f\xff\xff\xff\xff\x87"} {
		getIntErrs(t, b, 5, api.ErrForm)
	}
	// Just not too great, so that the sixth is missed.
	getIntErrs(t, "\x1f\xe0\xff\xff\xff\x87", 5, api.ErrMore)
}

func TestGetIntLooksAtThePrefixAlone(t *testing.T) {
	for octet := range 256 {
		for prefix := 1; prefix <= 8; prefix++ {
			full := 1<<prefix - 1
			want, n := octet&full, 1
			if want == full {
				want, n = full+3, 2
			}
			if v, got, e := hints.GetInt([]byte{byte(octet), 3}, prefix); v != want || got != n || e != api.OK {
				t.Errorf("GetInt of %#x, %d: %d, %d, %v", octet, prefix, v, got, e)
			}
		}
	}
}

// texts are texts in their octets.
var texts = map[string]string{
	"":                "\x00",
	"a":               "\x01a",
	"aa":              "\x02aa",
	"aaa":             "\x82\x18\xc7",
	"www.example.com": "\x8c\xf1\xe3\xc2\xe5\xf2\x3a\x6b\xa0\xab\x90\xf4\xff",
	"custom-key":      "\x88\x25\xa8\x49\xe9\x5b\xa9\x7d\x7f",
	"302":             "\x82\x64\x02",
	"\xff":            "\x01\xff",
	"!!!!":            "\x04!!!!",
	"\x00\n\x80":      "\x03\x00\n\x80",
	// Five octets of 8 bits each in the code: no shorter packed.
	"&*,;X": "\x05&*,;X",
}

func TestPutTextOfExamples(t *testing.T) {
	for s, want := range texts {
		if b := hints.PutText(s); string(b) != want {
			t.Errorf("PutText of %q: %x; want %x", s, b, want)
		}
	}
}

func TestGetTextOfExamples(t *testing.T) {
	for want, b := range texts {
		for _, behind := range []string{"", "\x00", "\xff\xff"} {
			if s, n, e := hints.GetText([]byte(b + behind)); s != want || n != len(b) || e != api.OK {
				t.Errorf("GetText of %x: %q, %d, %v; want %q", b+behind, s, n, e, want)
			}
		}
	}
}

func TestPutTextOfLongTexts(t *testing.T) {
	// The length's own octets, at the edges of its prefix and of those behind.
	for _, x := range []struct {
		length int
		want   string
	}{{126, "\x7e"}, {127, "\x7f\x00"}, {128, "\x7f\x01"}, {254, "\x7f\x7f"}, {255, "\x7f\x80\x01"}, {16510, "\x7f\xff\x7f"}, {16511, "\x7f\x80\x80\x01"}} {
		s := strings.Repeat("!", x.length)
		if b := hints.PutText(s); string(b) != x.want+s {
			t.Errorf("PutText of %d octets begins with %x", x.length, b[:6])
		}
		// Of packed ones, the length is that of what is packed: 5 bits a 0.
		s = strings.Repeat("0", x.length*8/5)
		packed := huffman.Encode(s)
		head, _ := hints.PutInt(0x80, 7, len(packed))
		if b := hints.PutText(s); !bytes.Equal(b, append(head, packed...)) {
			t.Errorf("PutText of %d zeros begins with %x", len(s), b[:6])
		}
		if got, n, e := hints.GetText(append(append(head, packed...), 7)); got != s || n != len(head)+len(packed) || e != api.OK {
			t.Errorf("GetText of %d zeros: %d octets, %d, %v", len(s), len(got), n, e)
		}
	}
}

func TestPutTextIsPackedIfShorter(t *testing.T) {
	for octet := range 256 {
		for length := range 40 {
			s := strings.Repeat(string([]byte{byte(octet)}), length)
			var want []byte
			if packed := huffman.Encode(s); len(packed) < len(s) {
				want = append([]byte{0x80 | byte(len(packed))}, packed...)
			} else {
				want = append([]byte{byte(len(s))}, s...)
			}
			b := hints.PutText(s)
			if !bytes.Equal(b, want) {
				t.Errorf("PutText of %q: %x", s, b)
			}
			if got, n, e := hints.GetText(b); got != s || n != len(b) || e != api.OK {
				t.Errorf("GetText of PutText of %q: %q, %d, %v", s, got, n, e)
			}
		}
	}
}

// getTextErrs asks GetText for an error alone.
func getTextErrs(t *testing.T, b string, want api.Errno) {
	t.Helper()
	if s, n, e := hints.GetText([]byte(b)); s != "" || n != 0 || e != want {
		t.Errorf("GetText of %x: %q, %d, %v; want %v", b, s, n, e, want)
	}
}

func TestGetTextOfTooFewOctets(t *testing.T) {
	for _, b := range []string{
		"", "\x01", "\x81", "\x03ab", "\x83\x18\xc7", "\x7f", "\xff", "\x7f\x80", "\x7f\x00",
		"\x7f\x00" + strings.Repeat("x", 126), "\xff\x80\xff\xff\xff\x07", "\x7f\x80\xff\xff\xff\x07x",
		// More are missed, ahead of what is wrong with those that are there.
		"\x85\xff\xff\xff\xff", "\x82\x1e",
	} {
		getTextErrs(t, b, api.ErrMore)
	}
	if s, n, e := hints.GetText(nil); s != "" || n != 0 || e != api.ErrMore {
		t.Error(s, n, e)
	}
	if s, n, e := hints.GetText([]byte("\x7f\x00" + strings.Repeat("x", 127))); len(s) != 127 || n != 129 || e != api.OK {
		t.Error(len(s), n, e)
	}
}

func TestGetTextLooksAtNoOctetBehindTheLength(t *testing.T) {
	for _, whole := range []string{"\x03abc", "\x82\x18\xc7"} {
		b := []byte(whole)
		for n := range b {
			if s, got, e := hints.GetText(b[:n]); s != "" || got != 0 || e != api.ErrMore {
				t.Errorf("of %x: %q, %d, %v", b[:n], s, got, e)
			}
		}
	}
}

func TestGetTextOfWrongLengths(t *testing.T) {
	for _, b := range []string{"\x7f\x80\x80\x80\x80\x80\x00", "\xff\x80\x80\x80\x80\x80\x00", "\x7f\x81\xff\xff\xff\x07", "\xff\xff\xff\xff\xff\x7f"} {
		getTextErrs(t, b, api.ErrForm)
	}
	// Octets that add nothing are let by here too.
	if s, n, e := hints.GetText([]byte("\x7f\x80\x00" + strings.Repeat("y", 128))); s != strings.Repeat("y", 127) || n != 130 || e != api.OK {
		t.Errorf("%q, %d, %v", s, n, e)
	}
}

func TestGetTextOfWrongCodes(t *testing.T) {
	for _, b := range []string{"\x81\xff", "\x81\x1e", "\x82\x1f\xff", "\x84\xff\xff\xff\xff", "\x84\xff\xff\xff\xfc", "\x81\xff\x1f"} {
		getTextErrs(t, b, api.ErrForm)
	}
}

func TestGetTextOfWhatPutTextDoesNotWrite(t *testing.T) {
	// Packed though it is no shorter, not packed though it would be, and
	// packed nothing.
	for b, want := range map[string]string{"\x81\x1f": "a", "\x0fwww.example.com": "www.example.com", "\x80": "", "\x82\xfe\x3f": "!"} {
		if s, n, e := hints.GetText([]byte(b + "q")); s != want || n != len(b) || e != api.OK {
			t.Errorf("GetText of %x: %q, %d, %v", b, s, n, e)
		}
	}
}

func TestGetTextOfLongText(t *testing.T) {
	// However long a text is when it is unpacked.
	s := strings.Repeat("0", 2_000_000)
	b := hints.PutText(s)
	if got, n, e := hints.GetText(b); got != s || n != len(b) || e != api.OK {
		t.Errorf("%d octets, %d, %v", len(got), n, e)
	}
}

func TestArgumentsAreLeftAndNotKept(t *testing.T) {
	for _, whole := range []string{"\x03abc", "\x82\x18\xc7", "\x81\xff", "\x05ab"} {
		b := []byte(whole)
		s, _, _ := hints.GetText(b)
		was := strings.Clone(s)
		hints.GetInt(b, 1)
		if string(b) != whole {
			t.Errorf("%x is %x now", whole, b)
		}
		for i := range b {
			b[i] = 'z'
		}
		if s != was {
			t.Errorf("%q was %q", s, was)
		}
	}
}

func TestAnswersAreTheCallers(t *testing.T) {
	for s, want := range texts {
		one, other := hints.PutText(s), hints.PutText(s)
		_ = append(one, 'x')
		for i := range one {
			one[i] = 'y'
		}
		if string(other) != want || string(hints.PutText(s)) != want {
			t.Errorf("%q: %x", s, other)
		}
	}
	for _, x := range numbers {
		one, _ := hints.PutInt(x.first, x.prefix, x.v)
		other, _ := hints.PutInt(x.first, x.prefix, x.v)
		_ = append(one, 'x')
		for i := range one {
			one[i] = 'y'
		}
		again, _ := hints.PutInt(x.first, x.prefix, x.v)
		if string(other) != x.want || string(again) != x.want {
			t.Errorf("%v: %x, %x", x, other, again)
		}
	}
}

package hints_test

import (
	"math/big"
	"math/rand"
	"strings"
	"testing"

	"flume/api"
	"flume/hints"
	"flume/huffman"
)

// number is what a row of octets says, by the words of the chapter alone: its
// value of any size, and the error, if it is none.
func number(b []byte, prefix int) (int, int, api.Errno) {
	if prefix < 1 || prefix > 8 {
		return 0, 0, api.ErrArg
	}
	if len(b) == 0 {
		return 0, 0, api.ErrMore
	}
	full := int64(1)
	for range prefix {
		full *= 2
	}
	full--
	head := int64(b[0]) % (full + 1)
	if head < full {
		return int(head), 1, api.OK
	}
	value, weight := big.NewInt(full), big.NewInt(1)
	for i, octet := range b[1:] {
		if i+1 == 6 {
			return 0, 0, api.ErrForm
		}
		value.Add(value, new(big.Int).Mul(weight, big.NewInt(int64(octet)%128)))
		if value.Cmp(big.NewInt(2147483647)) > 0 {
			return 0, 0, api.ErrForm
		}
		if octet < 128 {
			return int(value.Int64()), i + 2, api.OK
		}
		weight.Mul(weight, big.NewInt(128))
	}
	return 0, 0, api.ErrMore
}

// text is what a row of octets says as a text.
func text(b []byte) (string, int, api.Errno) {
	length, n, e := number(b, 7)
	if e != api.OK {
		return "", 0, e
	}
	if len(b)-n < length {
		return "", 0, api.ErrMore
	}
	s := string(b[n : n+length])
	if b[0] >= 128 {
		s, e = huffman.Decode([]byte(s), 8*length)
		if e != api.OK {
			return "", 0, e
		}
	}
	return s, n + length, api.OK
}

func getsInt(t *testing.T, b []byte, prefix int) {
	t.Helper()
	v, n, e := hints.GetInt(b, prefix)
	wantV, wantN, wantE := number(b, prefix)
	if v != wantV || n != wantN || e != wantE {
		t.Errorf("GetInt of %x, %d: %d, %d, %v; want %d, %d, %v", b, prefix, v, n, e, wantV, wantN, wantE)
	}
}

func getsText(t *testing.T, b []byte) {
	t.Helper()
	s, n, e := hints.GetText(b)
	wantS, wantN, wantE := text(b)
	if s != wantS || n != wantN || e != wantE {
		t.Errorf("GetText of %x: %q, %d, %v; want %q, %d, %v", b, s, n, e, wantS, wantN, wantE)
	}
}

// rows goes through all rows of up to so many octets of an alphabet, each
// behind what is there already.
func rows(b []byte, alphabet string, most int, do func([]byte)) {
	do(b)
	if most == 0 {
		return
	}
	for i := range len(alphabet) {
		rows(append(b[:len(b):len(b)], alphabet[i]), alphabet, most-1, do)
	}
}

func TestGetIntOfAllRows(t *testing.T) {
	for prefix := -1; prefix <= 10; prefix++ {
		rows(nil, "\x00\x07\x7f\x80\x87\xff", 6, func(b []byte) { getsInt(t, b, prefix) })
		rows([]byte("\xff\x80\x80\x80"), "\x00\x01\x07\x08\x7f\x80\x81\x87\x88\xff", 4, func(b []byte) { getsInt(t, b, prefix) })
		rows([]byte("\xff\xff\xff\xff\xff"), "\x00\x01\x06\x07\x08\x10\x7f\x80\x86\x87\x88\xff", 3, func(b []byte) { getsInt(t, b, prefix) })
	}
}

func TestGetTextOfAllRows(t *testing.T) {
	rows(nil, "\x00\x01\x02\x03\x1f\x7f\x80\x81\x82\x83\xff", 5, func(b []byte) { getsText(t, b) })
}

func TestGetTextOfAnyOctets(t *testing.T) {
	r := rand.New(rand.NewSource(1))
	for range 20000 {
		b := make([]byte, r.Intn(12))
		for i := range b {
			b[i] = byte(r.Intn(256))
		}
		if len(b) > 0 && r.Intn(2) == 0 {
			b[0] = byte(r.Intn(2)*128 + r.Intn(12))
		}
		getsText(t, b)
		getsInt(t, b, r.Intn(10))
	}
}

// someNumber is one of any size, often at an edge.
func someNumber(r *rand.Rand, prefix int) int {
	v := r.Intn(1 << (1 + r.Intn(31)))
	if r.Intn(2) == 0 {
		v = 1<<prefix - 1 + 1<<(7*r.Intn(5)) + r.Intn(5) - 2
	}
	return min(max(v, 0), hints.MostInt)
}

func TestPutIntOfAnyNumber(t *testing.T) {
	r := rand.New(rand.NewSource(2))
	for range 100000 {
		prefix, first := 1+r.Intn(8), byte(r.Intn(256))
		v := someNumber(r, prefix)
		b, e := hints.PutInt(first, prefix, v)
		if e != api.OK {
			t.Fatalf("PutInt of %d: %v", v, e)
		}
		got, n, e := number(b, prefix)
		if got != v || n != len(b) || e != api.OK || b[0]>>prefix != first>>prefix {
			t.Errorf("PutInt of %#x, %d, %d: %x", first, prefix, v, b)
		}
		if len(b) > 2 && b[len(b)-1] == 0 {
			t.Errorf("PutInt of %d has an octet that adds nothing: %x", v, b)
		}
		getsInt(t, b, prefix)
		getsInt(t, b[:len(b)-1], prefix)
	}
}

func TestGetTextOfPutText(t *testing.T) {
	r := rand.New(rand.NewSource(3))
	for range 3000 {
		var s strings.Builder
		for range r.Intn(300) {
			if r.Intn(3) == 0 {
				s.WriteByte(byte(r.Intn(256)))
			} else {
				s.WriteByte(byte('0' + r.Intn(10)))
			}
		}
		b := hints.PutText(s.String())
		if packed := b[0] >= 128; packed != (huffman.Size(s.String()) < s.Len()) {
			t.Errorf("PutText of %q: %x", s.String(), b)
		}
		if got, n, e := hints.GetText(b); got != s.String() || n != len(b) || e != api.OK {
			t.Errorf("GetText of PutText of %q: %q, %d, %v", s.String(), got, n, e)
		}
		if got, n, e := hints.GetText(b[:len(b)-1]); got != "" || n != 0 || e != api.ErrMore {
			t.Errorf("GetText of less than PutText of %q: %q, %d, %v", s.String(), got, n, e)
		}
	}
}

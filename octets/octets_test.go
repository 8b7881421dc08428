package octets_test

import (
	"bytes"
	"math"
	"testing"

	"flume/octets"
)

// wrongWidths are numbers of octets that no number has.
var wrongWidths = []int{math.MinInt, -8, -1, 0, 9, 10, 64, math.MaxInt}

func TestUintTellsNumber(t *testing.T) {
	b := []byte{0x81, 2, 3, 4, 5, 6, 7, 0xf8, 9}
	want := []uint64{
		0x81, 0x8102, 0x810203, 0x81020304, 0x8102030405,
		0x810203040506, 0x81020304050607, 0x81020304050607f8,
	}
	for i, w := range want {
		n := i + 1
		if v, ok := octets.Uint(b, n); v != w || !ok {
			t.Errorf("Uint by %d: %#x, %v", n, v, ok)
		}
		// Just as many octets as are asked for are enough.
		if v, ok := octets.Uint(b[:n], n); v != w || !ok {
			t.Errorf("Uint of %d octets by as many: %#x, %v", n, v, ok)
		}
	}
}

func TestUintOfExample(t *testing.T) {
	if v, ok := octets.Uint([]byte{1, 2, 3}, 2); v != 258 || !ok {
		t.Error(v, ok)
	}
	if v, ok := octets.Uint([]byte{1, 2, 3}, 4); v != 0 || ok {
		t.Error(v, ok)
	}
}

func TestUintOfExtremes(t *testing.T) {
	for n := 1; n <= 8; n++ {
		if v, ok := octets.Uint(make([]byte, n), n); v != 0 || !ok {
			t.Errorf("noughts by %d: %d, %v", n, v, ok)
		}
		high := bytes.Repeat([]byte{255}, n)
		if v, ok := octets.Uint(high, n); v != math.MaxUint64>>(64-8*n) || !ok {
			t.Errorf("255s by %d: %d, %v", n, v, ok)
		}
	}
}

func TestUintOfTooFewOctets(t *testing.T) {
	for n := 1; n <= 8; n++ {
		// What stands behind the slice's end must not count as its own.
		whole := bytes.Repeat([]byte{7}, 16)
		for have := range n {
			if v, ok := octets.Uint(whole[:have], n); v != 0 || ok {
				t.Errorf("Uint of %d octets by %d: %d, %v", have, n, v, ok)
			}
		}
		if v, ok := octets.Uint(nil, n); v != 0 || ok {
			t.Errorf("Uint of nil by %d: %d, %v", n, v, ok)
		}
	}
}

func TestUintOfWrongWidth(t *testing.T) {
	b := bytes.Repeat([]byte{1}, 100)
	for _, n := range wrongWidths {
		for _, b := range [][]byte{nil, {}, b[:1], b[:9], b} {
			if v, ok := octets.Uint(b, n); v != 0 || ok {
				t.Errorf("Uint of %d octets by %d: %d, %v", len(b), n, v, ok)
			}
		}
	}
}

func TestUintLeavesWhatItIsHanded(t *testing.T) {
	b := []byte{1, 2, 3}
	first, _ := octets.Uint(b, 3)
	again, _ := octets.Uint(b, 3)
	if string(b) != "\x01\x02\x03" || first != again {
		t.Error(b, first, again)
	}
}

func TestPutTellsOctets(t *testing.T) {
	const v = 0x81020304050607f8
	want := []byte{0x81, 2, 3, 4, 5, 6, 7, 0xf8}
	for n := 1; n <= 8; n++ {
		// v is larger than n octets hold, but for 8: the lowest stand there.
		if b := octets.Put(nil, v, n); !bytes.Equal(b, want[8-n:]) {
			t.Errorf("Put by %d: %v", n, b)
		}
		behind := append([]byte{5, 0, 9}, want[8-n:]...)
		if b := octets.Put([]byte{5, 0, 9}, v, n); !bytes.Equal(b, behind) {
			t.Errorf("Put by %d behind three: %v", n, b)
		}
	}
}

func TestPutOfExample(t *testing.T) {
	if b := octets.Put([]byte{5}, 258, 3); string(b) != "\x05\x00\x01\x02" {
		t.Error(b)
	}
}

func TestPutOfSmallNumbersFillsWithNoughts(t *testing.T) {
	for n := 1; n <= 8; n++ {
		want := append(make([]byte, n-1), 200)
		if b := octets.Put([]byte{}, 200, n); !bytes.Equal(b, want) {
			t.Errorf("Put of 200 by %d: %v", n, b)
		}
	}
}

func TestPutOfTooLargeNumbers(t *testing.T) {
	if b := octets.Put(nil, 256, 1); string(b) != "\x00" {
		t.Error(b)
	}
	if b := octets.Put(nil, math.MaxUint64, 3); string(b) != "\xff\xff\xff" {
		t.Error(b)
	}
}

func TestPutOfWrongWidth(t *testing.T) {
	for _, n := range wrongWidths {
		for _, b := range [][]byte{nil, {}, {1}, {3, 2, 1}} {
			if out := octets.Put(b, 77, n); !bytes.Equal(out, b) {
				t.Errorf("Put behind %v by %d: %v", b, n, out)
			}
		}
	}
}

// The room behind what is handed in is the caller's too, and the answer is
// nobody's but the caller's: R1.
func TestPutKeepsToItsOwnMemory(t *testing.T) {
	for _, n := range []int{-1, 0, 1, 4, 8, 9} {
		whole := bytes.Repeat([]byte{7}, 16)
		out := octets.Put(whole[:2], 0x0102030405060708, n)
		if !bytes.Equal(whole, bytes.Repeat([]byte{7}, 16)) {
			t.Errorf("Put by %d wrote over what it was handed: %v", n, whole)
		}
		was := bytes.Clone(out)
		clear(whole)
		if !bytes.Equal(out, was) {
			t.Errorf("Put by %d answers what it was handed: %v", n, out)
		}
		whole = bytes.Repeat([]byte{7}, 16)
		out = octets.Put(whole[:2], 1, n)
		clear(out[:cap(out)])
		if !bytes.Equal(whole, bytes.Repeat([]byte{7}, 16)) {
			t.Errorf("Put by %d shares what it was handed: %v", n, whole)
		}
	}
}

func TestPutAnswersApart(t *testing.T) {
	b := make([]byte, 1, 64)
	first := octets.Put(b, 1, 2)
	second := octets.Put(b, 2, 2)
	_ = append(first, 9, 9, 9)
	if string(first) != "\x00\x00\x01" || string(second) != "\x00\x00\x02" {
		t.Error(first, second)
	}
}

func TestUintOfPut(t *testing.T) {
	numbers := []uint64{0, 1, 127, 128, 255, 256, 65535, 1 << 31, 1<<31 - 1, 1 << 40, 1 << 63, math.MaxInt64, math.MaxUint64, 0x8899aabbccddeeff}
	for _, v := range numbers {
		for n := 1; n <= 8; n++ {
			b := octets.Put(nil, v, n)
			got, ok := octets.Uint(b, n)
			if got != v&(math.MaxUint64>>(64-8*n)) || !ok || len(b) != n {
				t.Errorf("Uint of Put of %d by %d: %d, %v", v, n, got, ok)
			}
		}
	}
}

func FuzzUintOfPut(f *testing.F) {
	f.Add([]byte{}, uint64(0), 1)
	f.Add([]byte{5}, uint64(258), 3)
	f.Add([]byte{1, 2}, uint64(math.MaxUint64), 8)
	f.Add([]byte{1, 2}, uint64(3), 9)
	f.Add([]byte{1, 2}, uint64(3), -1)
	f.Fuzz(func(t *testing.T, b []byte, v uint64, n int) {
		out := octets.Put(b, v, n)
		if !bytes.HasPrefix(out, b) {
			t.Fatalf("%v does not begin with %v", out, b)
		}
		got, ok := octets.Uint(out[len(b):], n)
		if n < 1 || n > 8 {
			if len(out) != len(b) || ok || got != 0 {
				t.Fatalf("by %d: %v, %d, %v", n, out, got, ok)
			}
			return
		}
		if !ok || len(out) != len(b)+n || got != v&(math.MaxUint64>>(64-8*n)) {
			t.Fatalf("by %d: %v, %d, %v", n, out, got, ok)
		}
	})
}

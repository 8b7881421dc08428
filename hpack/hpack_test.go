package hpack_test

import (
	"encoding/hex"
	"reflect"
	"strings"
	"testing"

	"flume/api"
	"flume/hpack"
)

func field(name, value string) api.Field {
	return api.Field{Name: name, Value: value}
}

func never(name, value string) api.Field {
	return api.Field{Name: name, Value: value, Never: true}
}

func list(l ...api.Field) []api.Field {
	return l
}

// octets reads numbers to base sixteen; spaces part them.
func octets(t *testing.T, s string) []byte {
	t.Helper()
	b, err := hex.DecodeString(strings.ReplaceAll(s, " ", ""))
	if err != nil {
		t.Fatal(err)
	}
	return b
}

// text writes a text of less than 127 octets as it is, unpacked.
func text(s string) string {
	return string(rune(len(s))) + s
}

type sized interface {
	Size() int
	Max() int
}

func has(t *testing.T, x sized, size, most int) {
	t.Helper()
	if x.Size() != size || x.Max() != most {
		t.Errorf("Size %d, Max %d; want %d, %d", x.Size(), x.Max(), size, most)
	}
}

func encodes(t *testing.T, c *hpack.Encoder, want string, l ...api.Field) {
	t.Helper()
	if b := c.Encode(l); string(b) != want {
		t.Errorf("Encode of %.300v: %.200x; want %.200x", l, b, want)
	}
}

// decodes asks for fields, and that it is no error.
func decodes(t *testing.T, d *hpack.Decoder, b string, want ...api.Field) {
	t.Helper()
	l, e := d.Decode([]byte(b))
	if e != api.OK || len(l) != len(want) || len(l) > 0 && !reflect.DeepEqual(l, want) {
		t.Errorf("Decode of %.200x: %.300v, %v; want %.300v", b, l, e, want)
	}
}

// fails asks for an error, and that nothing is answered beside it.
func fails(t *testing.T, d *hpack.Decoder, b string, want api.Errno) {
	t.Helper()
	if l, e := d.Decode([]byte(b)); e != want || len(l) != 0 {
		t.Errorf("Decode of %.200x: %.300v, %v; want %v", b, l, e, want)
	}
}

func TestExamplesOfEncode(t *testing.T) {
	c := hpack.NewEncoder(4096)
	encodes(t, c, "\x82", field(":method", "GET"))
	encodes(t, c, "\x42\x03PUT", field(":method", "PUT"))
	encodes(t, c, "\xbe", field(":method", "PUT"))
	encodes(t, c, "\x10\x01a\x01b", never("a", "b"))
	c.SetMax(0)
	c.SetMax(100)
	encodes(t, c, "\x20\x3f\x45")
}

func TestExamplesOfDecode(t *testing.T) {
	d := hpack.NewDecoder(4096, 1000)
	decodes(t, d, "\x82", field(":method", "GET"))
	fails(t, d, "\x80", api.ErrForm)
	fails(t, d, "\x82", api.ErrState)
	fails(t, hpack.NewDecoder(100, 20), "\x82", api.ErrLong)
	fails(t, hpack.NewDecoder(100, 1000), "\x3f\x46", api.ErrForm)
	fails(t, hpack.NewDecoder(100, 1000), "\x82\x20", api.ErrForm)
}

// row is a block of RFC 7541, appendix C, its fields, and the table's size
// behind it.
type row struct {
	block  string
	fields []api.Field
	size   int
}

func requests() [][]api.Field {
	get, path := field(":method", "GET"), field(":path", "/")
	host := field(":authority", "www.example.com")
	return [][]api.Field{
		list(get, field(":scheme", "http"), path, host),
		list(get, field(":scheme", "http"), path, host, field("cache-control", "no-cache")),
		list(get, field(":scheme", "https"), field(":path", "/index.html"), host, field("custom-key", "custom-value")),
	}
}

func responses() [][]api.Field {
	private, where := field("cache-control", "private"), field("location", "https://www.example.com")
	when := field("date", "Mon, 21 Oct 2013 20:13:21 GMT")
	return [][]api.Field{
		list(field(":status", "302"), private, when, where),
		list(field(":status", "307"), private, when, where),
		list(field(":status", "200"), private, field("date", "Mon, 21 Oct 2013 20:13:22 GMT"), where,
			field("content-encoding", "gzip"),
			field("set-cookie", "foo=ASDJKHQKBZXOQWEOPIUAXQWEOIU; max-age=3600; version=1")),
	}
}

func rows(lists [][]api.Field, sizes [3]int, blocks [3]string) []row {
	var out []row
	for i, l := range lists {
		out = append(out, row{blocks[i], l, sizes[i]})
	}
	return out
}

// plainRows are those of texts as they are, C.3 and C.5; packedRows C.4 and C.6.
func plainRows() ([]row, []row) {
	return rows(requests(), [3]int{57, 110, 164}, [3]string{
			"8286 8441 0f77 7777 2e65 7861 6d70 6c65 2e63 6f6d",
			"8286 84be 5808 6e6f 2d63 6163 6865",
			"8287 85bf 400a 6375 7374 6f6d 2d6b 6579 0c63 7573 746f 6d2d 7661 6c75 65",
		}), rows(responses(), [3]int{222, 222, 215}, [3]string{
			"4803 3330 3258 0770 7269 7661 7465 611d 4d6f 6e2c 2032 3120 4f63 7420 3230 3133 2032 303a 3133 3a32 3120 474d 546e 1768 7474 7073 3a2f 2f77 7777 2e65 7861 6d70 6c65 2e63 6f6d",
			"4803 3330 37c1 c0bf",
			"88c1 611d 4d6f 6e2c 2032 3120 4f63 7420 3230 3133 2032 303a 3133 3a32 3220 474d 54c0 5a04 677a 6970 7738 666f 6f3d 4153 444a 4b48 514b 425a 584f 5157 454f 5049 5541 5851 5745 4f49 553b 206d 6178 2d61 6765 3d33 3630 303b 2076 6572 7369 6f6e 3d31",
		})
}

func packedRows() ([]row, []row) {
	return rows(requests(), [3]int{57, 110, 164}, [3]string{
			"8286 8441 8cf1 e3c2 e5f2 3a6b a0ab 90f4 ff",
			"8286 84be 5886 a8eb 1064 9cbf",
			"8287 85bf 4088 25a8 49e9 5ba9 7d7f 8925 a849 e95b b8e8 b4bf",
		}), rows(responses(), [3]int{222, 222, 215}, [3]string{
			"4882 6402 5885 aec3 771a 4b61 96d0 7abe 9410 54d4 44a8 2005 9504 0b81 66e0 82a6 2d1b ff6e 919d 29ad 1718 63c7 8f0b 97c8 e9ae 82ae 43d3",
			"4883 640e ffc1 c0bf",
			"88c1 6196 d07a be94 1054 d444 a820 0595 040b 8166 e084 a62d 1bff c05a 839b d9ab 77ad 94e7 821d d7f2 e6c7 b335 dfdf cd5b 3960 d5af 2708 7f36 72c1 ab27 0fb5 291f 9587 3160 65c0 03ed 4ee5 b106 3d50 07",
		})
}

func TestBlocksOfTheStandard(t *testing.T) {
	asked, answered := plainRows()
	askedPacked, answeredPacked := packedRows()
	for _, x := range []struct {
		most int
		rows []row
	}{{4096, asked}, {4096, askedPacked}, {256, answered}, {256, answeredPacked}} {
		d := hpack.NewDecoder(x.most, 1000)
		for _, r := range x.rows {
			decodes(t, d, string(octets(t, r.block)), r.fields...)
			has(t, d, r.size, x.most)
		}
	}
}

// An encoder packs each text that is shorter so, as C.4 and C.6 do; there 307
// is packed too, though that makes it no shorter.
func TestEncodeIsAsInTheStandard(t *testing.T) {
	asked, answered := packedRows()
	answered[1].block = "4803 3330 37c1 c0bf"
	for most, rows := range map[int][]row{4096: asked, 256: answered} {
		c := hpack.NewEncoder(most)
		for _, r := range rows {
			encodes(t, c, string(octets(t, r.block)), r.fields...)
			has(t, c, r.size, most)
		}
	}
}

// C.2: one field of each kind.
func TestFieldsOfTheStandard(t *testing.T) {
	for _, x := range []row{
		{"400a 6375 7374 6f6d 2d6b 6579 0d63 7573 746f 6d2d 6865 6164 6572", list(field("custom-key", "custom-header")), 55},
		{"040c 2f73 616d 706c 652f 7061 7468", list(field(":path", "/sample/path")), 0},
		{"1008 7061 7373 776f 7264 0673 6563 7265 74", list(never("password", "secret")), 0},
		{"82", list(field(":method", "GET")), 0},
	} {
		d := hpack.NewDecoder(4096, 1000)
		decodes(t, d, string(octets(t, x.block)), x.fields...)
		has(t, d, x.size, 4096)
	}
}

// The ends of a connection agree, whatever is encoded under which limits.
func TestEndsAgree(t *testing.T) {
	c, d := hpack.NewEncoder(300), hpack.NewDecoder(300, 1<<20)
	for i, most := range []int{300, 100, 0, 34, 5000, 70000, -1, 200} {
		if i%2 == 1 {
			c.SetMax(most / 2)
		}
		c.SetMax(most)
		d.SetMax(most)
		for _, l := range append(requests(), responses()...) {
			l = append(l, never("cookie", strings.Repeat("c", 40*i)))
			decodes(t, d, string(c.Encode(l)), l...)
			has(t, d, c.Size(), c.Max())
		}
	}
}

// R3.
func TestEndsHaveNothingInCommon(t *testing.T) {
	a, b := hpack.NewEncoder(100), hpack.NewEncoder(100)
	c, d := hpack.NewDecoder(100, 100), hpack.NewDecoder(100, 100)
	a.SetMax(50)
	encodes(t, a, "\x3f\x13\x40\x01a\x01b", field("a", "b"))
	decodes(t, c, "\x40\x01a\x01b", field("a", "b"))
	c.SetMax(50)
	fails(t, c, "", api.ErrForm)
	has(t, b, 0, 100)
	has(t, d, 0, 100)
	encodes(t, b, "\x40\x01a\x01c", field("a", "c"))
	decodes(t, d, "\x40\x01a\x01c\xbe", field("a", "c"), field("a", "c"))
}

package hpack_test

import (
	"math"
	"strings"
	"testing"

	"flume/api"
	"flume/hpack"
)

// decoder is one that has got these blocks.
func decoder(t *testing.T, most, list int, blocks ...string) *hpack.Decoder {
	t.Helper()
	d := hpack.NewDecoder(most, list)
	for _, b := range blocks {
		if _, e := d.Decode([]byte(b)); e != api.OK && e != api.ErrLong {
			t.Fatalf("Decode of %x: %v", b, e)
		}
	}
	return d
}

func TestMaxOfNewDecoder(t *testing.T) {
	for most, want := range map[int]int{
		math.MinInt: 0, -1: 0, 0: 0, 1: 1, 4096: 4096, 65536: 65536, 65537: 65536, math.MaxInt: 65536,
	} {
		d := hpack.NewDecoder(most, 1000)
		has(t, d, 0, want)
		decodes(t, d, "")
		has(t, d, 0, want)
	}
}

// What a field is, and what it leaves, in a table that has `a` `b` and room
// for 100.
func TestDecodeOfEachKind(t *testing.T) {
	for _, x := range []struct {
		b    string
		want api.Field
		size int
	}{
		{"\x81", field(":authority", ""), 34},
		{"\xbd", field("www-authenticate", ""), 34},
		{"\xbe", field("a", "b"), 34},
		{"\x40\x01c\x01d", field("c", "d"), 68},
		{"\x40\x00\x00", field("", ""), 66},
		{"\x42\x03PUT", field(":method", "PUT"), 76},
		{"\x7d\x01d", field("www-authenticate", "d"), 83},
		{"\x7e\x01d", field("a", "d"), 68},
		{"\x10\x01c\x01d", never("c", "d"), 34},
		{"\x10\x00\x00", never("", ""), 34},
		{"\x12\x03GET", never(":method", "GET"), 34},
		{"\x1e\x01d", never(":status", "d"), 34},
		{"\x1f\x00\x01d", never("accept-charset", "d"), 34},
		{"\x1f\x2f\x01b", never("a", "b"), 34},
		{"\x00\x01c\x01d", field("c", "d"), 34},
		{"\x00\x00\x00", field("", ""), 34},
		{"\x02\x03GET", field(":method", "GET"), 34},
		{"\x0e\x01d", field(":status", "d"), 34},
		{"\x0f\x00\x01d", field("accept-charset", "d"), 34},
		{"\x0f\x2f\x01b", field("a", "b"), 34},
		// Texts may be packed, be it worth it or not, and lengths longer than they need be.
		{"\x40\x81\x1f\x81\x8f", field("a", "b"), 68},
		{"\x4f\x01A", field("accept-charset", "A"), 81},
		{"\x00\x01c\x7f\x80\x00" + strings.Repeat("\xff", 127), field("c", strings.Repeat("\xff", 127)), 34},
		{"\x0f\xaf\x80\x80\x00\x01b", field("a", "b"), 34},
	} {
		d := decoder(t, 100, 1000, "\x40\x01a\x01b")
		decodes(t, d, x.b, x.want)
		has(t, d, x.size, 100)
	}
}

func TestDecodeOfSomeFields(t *testing.T) {
	d := hpack.NewDecoder(100, 1000)
	decodes(t, d, "\x82\x40\x01a\x01b\xbe\x10\x01a\x01b\x00\x01c\x00\x82",
		field(":method", "GET"), field("a", "b"), field("a", "b"), never("a", "b"), field("c", ""), field(":method", "GET"))
	decodes(t, d, "")
	decodes(t, d, "\xbe", field("a", "b"))
	has(t, d, 34, 100)
}

// wrongBlocks are none, for a table without entries and a Max of 100.
func wrongBlocks() []string {
	return []string{
		// An index is 0 where it names a whole field.
		"\x80", "\x82\x80", "\x80\x82",
		// Nobody has an index.
		"\xbe", "\xbf", "\xff\x00", "\xff\x80\x01", "\xff\x80\xff\xff\xff\x07",
		"\x7e\x01b", "\x7f\x00\x01b", "\x1f\x2f\x01b", "\x1f\x30\x01b", "\x0f\x2f\x01b", "\x0f\x30\x01b",
		"\x40\x01a\x01b\xbf", "\x40\x01a\x01b\x7f\x00\x01b",
		// What is not put into the table has no index.
		"\x00\x01a\x01b\xbe", "\x10\x01a\x01b\xbe", "\x82\xbe",
		// A number is not all there.
		"\xff", "\xff\x80", "\x7f", "\x7f\xff", "\x3f", "\x3f\x80", "\x1f", "\x0f", "\x82\xff", "\x20\xff", "\x20\x3f",
		// A number is none.
		"\xff\x80\x80\x80\x80\x80\x00", "\xff\x81\xff\xff\xff\x07", "\xff\xff\xff\xff\xff\xff\xff\xff\xff\xff\x7f",
		"\x7f\x80\x80\x80\x80\x80\x00\x00\x00", "\x3f\x80\x80\x80\x80\x80\x00", "\x1f\x80\x80\x80\x80\x80\x00\x00\x00", "\x0f\xff\xff\xff\xff\x7f\x00\x00",
		// So too if what stands there could be a text.
		"\x0f\x80\x80\x80\x80\x80" + strings.Repeat("\x00", 11), "\x1f\x80\x80\x80\x80\x80" + strings.Repeat("\x00", 27), "\x7f\x80\x80\x80\x80\x80" + strings.Repeat("\x00", 123),
		// A text is not all there.
		"\x40", "\x10", "\x00", "\x40\x00", "\x10\x00", "\x00\x00", "\x42", "\x12", "\x02", "\x42\x01", "\x12\x02a", "\x02\x02a",
		"\x40\x02a", "\x40\x01a", "\x40\x01a\x02b", "\x10\x7f", "\x00\x7f\x80", "\x02\xff", "\x82\x40\x01a", "\x42\x82\x1f", "\x40\x7f\xff\xff\xff\xff\x07",
		// A text is none: its length, or what is packed.
		"\x40\x7f\x80\x80\x80\x80\x80\x00", "\x42\x7f\xff\xff\xff\xff\x7f", "\x42\xff\xff\xff\xff\xff\x7f",
		"\x42\x81\x00", "\x42\x81\xff", "\x42\x84\xff\xff\xff\xff", "\x40\x81\x00\x00", "\x10\x81\x00\x00", "\x00\x81\x00\x00", "\x12\x81\x00", "\x02\x81\x00",
		// An update stands behind a field.
		"\x82\x20", "\x82\x20\x82", "\x20\x82\x20", "\x40\x01a\x01b\x3f\x45", "\x10\x01a\x01b\x20", "\x00\x01a\x01b\x3e",
		// An update's number is above the limit.
		"\x3f\x46", "\x3f\x46\x20", "\x20\x3f\x46", "\x3f\x46\x82", "\x3f\xe1\x1f", "\x3f\xe0\xff\xff\xff\x07",
	}
}

func TestBlocksThatAreNone(t *testing.T) {
	for _, b := range wrongBlocks() {
		d := hpack.NewDecoder(100, 1000)
		fails(t, d, b, api.ErrForm)
		for _, next := range []string{b, "", "\x82", "\x20", "\x80"} {
			fails(t, d, next, api.ErrState)
		}
		// No limit mends it, and all goes on without a panic.
		d.SetMax(0)
		d.SetMax(100)
		d.Size()
		d.Max()
		fails(t, d, "", api.ErrState)
	}
}

// It is no matter where a wrong block comes.
func TestWrongBlocksLater(t *testing.T) {
	for _, b := range wrongBlocks() {
		d := decoder(t, 100, 1000, "", "\x82", "\x20", "\x3f\x45\x82")
		fails(t, d, b, api.ErrForm)
		fails(t, d, "\x82", api.ErrState)
	}
}

// ErrForm is ahead of ErrLong.
func TestWrongBlocksThatAreLong(t *testing.T) {
	for _, most := range []int{math.MinInt, -1, 0, 1, 41} {
		for _, b := range wrongBlocks() {
			d := hpack.NewDecoder(100, most)
			fails(t, d, b, api.ErrForm)
			fails(t, d, "", api.ErrState)
		}
		d := decoder(t, 100, most, "\x82")
		fails(t, d, "\x82\x82\x82\x80", api.ErrForm)
	}
}

// Each beginning of a block is one only where a field or an update ends.
func TestBeginningsOfBlocks(t *testing.T) {
	block := "\x20\x3f\x45\x82\x40\x01a\x02bb\x7e\x01c\x1f\x2f\x81\x1f\x0f\x00\x03ddd\xbe"
	ends := map[int]int{0: 0, 1: 0, 3: 0, 4: 1, 10: 2, 13: 3, 17: 4, 23: 5, 24: 6}
	for i := range len(block) + 1 {
		l, e := hpack.NewDecoder(100, 1000).Decode([]byte(block[:i]))
		if n, ok := ends[i]; ok != (e == api.OK) || len(l) != n || !ok && e != api.ErrForm {
			t.Errorf("%x: %v, %v", block[:i], l, e)
		}
	}
}

func TestUpdatesThatDecodeTakes(t *testing.T) {
	for _, x := range []struct {
		b    string
		most int
	}{
		{"", 100}, {"\x20", 0}, {"\x3e", 30}, {"\x3f\x00", 31}, {"\x3f\x44", 99}, {"\x3f\x45", 100},
		{"\x20\x3f\x45", 100}, {"\x3f\x45\x20", 0}, {"\x20\x3f\x45\x2a\x3f\x13", 50}, {"\x3f\xc5\x80\x00", 100},
	} {
		d := hpack.NewDecoder(100, 1000)
		decodes(t, d, x.b)
		has(t, d, 0, x.most)
		decodes(t, d, x.b+"\x82", field(":method", "GET"))
		has(t, d, 0, x.most)
		// The limit stays though the Max went down.
		decodes(t, d, "\x3f\x45\x40\x01a\x01b", field("a", "b"))
		has(t, d, 34, 100)
	}
}

// Updates let entries go, and the least one of some does.
func TestUpdatesLetEntriesGo(t *testing.T) {
	for _, x := range []struct {
		b          string
		size, most int
	}{
		{"\x3f\x25", 68, 68}, {"\x3f\x24", 34, 67}, {"\x3f\x03", 34, 34}, {"\x3f\x02", 0, 33}, {"\x20", 0, 0},
		{"\x3f\x24\x3f\x45", 34, 100}, {"\x20\x3f\x45", 0, 100}, {"\x3f\x45\x20\x3f\x25", 0, 68},
	} {
		d := decoder(t, 100, 1000, "\x40\x01a\x01b\x40\x01c\x01d")
		has(t, d, 68, 100)
		decodes(t, d, x.b)
		has(t, d, x.size, x.most)
		if x.size >= 34 {
			decodes(t, d, "\xbe", field("c", "d"))
		}
		if x.size < 68 {
			fails(t, d, "\xbf", api.ErrForm)
		}
	}
}

// An update may have what SetMax said last, and the Max may not stay above it.
func TestLimits(t *testing.T) {
	for _, x := range []struct {
		limits []int
		b      string
		e      api.Errno
		most   int
	}{
		{nil, "", api.OK, 100},
		{[]int{100}, "", api.OK, 100},
		{[]int{99}, "", api.ErrForm, 0},
		{[]int{99}, "\x82", api.ErrForm, 0},
		{[]int{99}, "\x3f\x44", api.OK, 99},
		{[]int{99}, "\x3f\x44\x82", api.OK, 99},
		{[]int{99}, "\x3f\x45", api.ErrForm, 0},
		{[]int{99}, "\x3f\x45\x3f\x44", api.ErrForm, 0},
		{[]int{99}, "\x20\x3f\x45", api.ErrForm, 0},
		{[]int{99}, "\x82\x3f\x44", api.ErrForm, 0},
		{[]int{50}, "\x20\x3f\x13", api.OK, 50},
		{[]int{50}, "\x20\x3f\x14", api.ErrForm, 0},
		{[]int{0}, "", api.ErrForm, 0},
		{[]int{0}, "\x20", api.OK, 0},
		{[]int{0}, "\x21", api.ErrForm, 0},
		{[]int{-1}, "", api.ErrForm, 0},
		{[]int{-1}, "\x20", api.OK, 0},
		{[]int{math.MinInt}, "\x20", api.OK, 0},
		{[]int{101}, "", api.OK, 100},
		{[]int{101}, "\x3f\x46", api.OK, 101},
		{[]int{101}, "\x3f\x47", api.ErrForm, 0},
		{[]int{65536}, "\x3f\xe1\xff\x03", api.OK, 65536},
		{[]int{65535}, "\x3f\xe1\xff\x03", api.ErrForm, 0},
		{[]int{65537}, "\x3f\xe1\xff\x03", api.OK, 65536},
		{[]int{65537}, "\x3f\xe2\xff\x03", api.ErrForm, 0},
		{[]int{math.MaxInt}, "\x3f\xe2\xff\x03", api.ErrForm, 0},
		{[]int{math.MaxInt}, "\x3f\xe1\xff\x03", api.OK, 65536},
		// The last limit counts, for no Max was above it where updates ended.
		{[]int{0, 100}, "", api.OK, 100},
		{[]int{0, 200}, "\x3f\xa9\x01", api.OK, 200},
		{[]int{200, 50}, "\x3f\x14", api.ErrForm, 0},
	} {
		d := hpack.NewDecoder(100, 1000)
		for _, n := range x.limits {
			d.SetMax(n)
			has(t, d, 0, 100)
		}
		l, e := d.Decode([]byte(x.b))
		if e != x.e || e == api.OK && d.Max() != x.most {
			t.Errorf("limits %v, %x: %v, %v, Max %d", x.limits, x.b, l, e, d.Max())
		}
	}
}

// SetMax lets no entry go; the update does.
func TestTheTableStaysTillTheUpdate(t *testing.T) {
	d := decoder(t, 100, 1000, "\x40\x01a\x01b\x40\x01c\x01d")
	d.SetMax(40)
	has(t, d, 68, 100)
	d.SetMax(100)
	decodes(t, d, "\xbf", field("a", "b"))
	d.SetMax(40)
	decodes(t, d, "\x3f\x09\xbe", field("c", "d"))
	has(t, d, 34, 40)
	// The limit holds for the blocks behind as well.
	decodes(t, d, "\x3f\x09")
	fails(t, d, "\x3f\x0a", api.ErrForm)
}

// The sizes may be together just the list.
func TestListsThatAreLong(t *testing.T) {
	for _, x := range []struct {
		list int
		b    string
		e    api.Errno
	}{
		{42, "\x82", api.OK}, {41, "\x82", api.ErrLong}, {84, "\x82\x82", api.OK}, {83, "\x82\x82", api.ErrLong},
		{34, "\x40\x01a\x01b", api.OK}, {33, "\x40\x01a\x01b", api.ErrLong},
		{34, "\x00\x01a\x01b", api.OK}, {33, "\x00\x01a\x01b", api.ErrLong},
		{34, "\x10\x01a\x01b", api.OK}, {33, "\x10\x01a\x01b", api.ErrLong},
		{68, "\x40\x01a\x01b\xbe", api.OK}, {67, "\x40\x01a\x01b\xbe", api.ErrLong},
		{36, "\x00\x01a\x82\x64\x02", api.OK}, {35, "\x00\x01a\x82\x64\x02", api.ErrLong},
		{0, "", api.OK}, {0, "\x20", api.OK}, {0, "\x82", api.ErrLong}, {31, "\x00\x00\x00", api.ErrLong}, {32, "\x00\x00\x00", api.OK},
		{-1, "\x82", api.ErrLong}, {-1, "", api.ErrLong}, {math.MinInt, "", api.ErrLong}, {math.MaxInt, "\x82", api.OK},
	} {
		d := hpack.NewDecoder(100, x.list)
		l, e := d.Decode([]byte(x.b))
		if e != x.e || (e != api.OK) && len(l) != 0 {
			t.Errorf("list %d, %x: %v, %v", x.list, x.b, l, e)
		}
	}
}

// Behind ErrLong the table is as it would be else, and the decoder goes on.
func TestTheTableBehindLongLists(t *testing.T) {
	block := "\x3f\x24\x40\x01a\x01b\x40\x01c\x01d\x82"
	d := hpack.NewDecoder(100, 60)
	fails(t, d, block, api.ErrLong)
	has(t, d, 34, 67)
	decodes(t, d, "\xbe", field("c", "d"))
	fails(t, d, "\xbe\xbe", api.ErrLong)
	decodes(t, d, "\x3f\x45\x40\x01a\x01b", field("a", "b"))
	decodes(t, d, "\xbf", field("c", "d"))
	fails(t, d, "\xc0", api.ErrForm)
	fails(t, d, "\xbe\xbe", api.ErrState)
}

// A field that is too large for the table lets all go, and is told yet.
func TestAddedFieldsThatAreTooLarge(t *testing.T) {
	d := decoder(t, 100, 1000, "\x40\x01a\x01b\x40\x01c\x01d")
	long := strings.Repeat("~", 68)
	decodes(t, d, "\x7e"+text(long), field("c", long))
	has(t, d, 0, 100)
	fails(t, d, "\xbe", api.ErrForm)
}

// An entry's name is told though the entry goes for the field.
func TestNamesOfEntriesThatGo(t *testing.T) {
	d := decoder(t, 40, 1000, "\x40\x01a\x01b")
	decodes(t, d, "\x7e\x01c\xbe", field("a", "c"), field("a", "c"))
	has(t, d, 34, 40)
	decodes(t, d, "\x7e\x08~~~~~~~~\x82", field("a", "~~~~~~~~"), field(":method", "GET"))
	has(t, d, 0, 40)
}

// R1: what is handed in stays, and is not kept.
func TestDecodeLeavesItsOctets(t *testing.T) {
	d := hpack.NewDecoder(100, 1000)
	block := "\x20\x3f\x45\x40\x02ab\x02cd\x10\x01e\x01f"
	b := []byte(block)
	l, e := d.Decode(b)
	if string(b) != block || e != api.OK {
		t.Errorf("%x, %v", b, e)
	}
	for i := range b {
		b[i] = 'x'
	}
	if len(l) < 1 || l[0] != field("ab", "cd") {
		t.Error(l)
	}
	decodes(t, d, "\xbe", field("ab", "cd"))
}

// R1: what is answered is the caller's.
func TestDecodeAnswersOwnLists(t *testing.T) {
	d := hpack.NewDecoder(100, 1000)
	for range 2 {
		l, _ := d.Decode([]byte("\x40\x02ab\x02cd\xbe\x82"))
		m, _ := d.Decode([]byte("\xbe"))
		for i := range l {
			l[i] = never("x", "y")
		}
		decodes(t, d, "\xbe\x82", field("ab", "cd"), field(":method", "GET"))
		if len(m) != 1 || m[0] != field("ab", "cd") {
			t.Error(m)
		}
	}
}

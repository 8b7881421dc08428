package hpack_test

import (
	"math"
	"slices"
	"strconv"
	"strings"
	"testing"

	"flume/api"
	"flume/hpack"
)

// encoder is one that has put these fields into its table.
func encoder(most int, l ...api.Field) *hpack.Encoder {
	c := hpack.NewEncoder(most)
	c.Encode(l)
	return c
}

func TestMaxOfNewEncoder(t *testing.T) {
	for most, want := range map[int]int{
		math.MinInt: 0, -1: 0, 0: 0, 1: 1, 4096: 4096, 65536: 65536, 65537: 65536, math.MaxInt: 65536,
	} {
		c := hpack.NewEncoder(most)
		has(t, c, 0, want)
		encodes(t, c, "")
	}
}

// Which kind a field is, of a table that has `a` `b` and room for 40.
func TestKindsOfFields(t *testing.T) {
	long := strings.Repeat("~", 7)
	for _, x := range []struct {
		f    api.Field
		want string
		size int
	}{
		{field(":method", "GET"), "\x82", 34},
		{field("a", "b"), "\xbe", 34},
		{field("www-authenticate", ""), "\xbd", 34},
		{field("", ""), "\x40\x00\x00", 32},
		{field("c", "d"), "\x40\x01c\x01d", 34},
		{field("a", "c"), "\x7e\x01c", 34},
		{field("a", ""), "\x7e\x00", 33},
		{field("age", "~~"), "\x55\x02~~", 37},
		{field("age", "~~~~~"), "\x55\x05~~~~~", 40},
		{field("age", "~~~~~~"), "\x0f\x06\x06~~~~~~", 34},
		{field("a", long), "\x7e\x07" + long, 40},
		{field("a", long+"~"), "\x0f\x2f\x08" + long + "~", 34},
		{field("~", long), "\x40\x01~\x07" + long, 40},
		{field("~", long+"~"), "\x00\x01~\x08" + long + "~", 34},
		// It is no matter that these are too large, for they are there.
		{field("accept-encoding", "gzip, deflate"), "\x90", 34},
		{field(":path", "/index.html"), "\x85", 34},
		{never("c", "d"), "\x10\x01c\x01d", 34},
		{never("", ""), "\x10\x00\x00", 34},
		{never("a", "b"), "\x1f\x2f\x01b", 34},
		{never("a", "c"), "\x1f\x2f\x01c", 34},
		{never("a", long+"~"), "\x1f\x2f\x08" + long + "~", 34},
		{never("~", long+"~"), "\x10\x01~\x08" + long + "~", 34},
		// The index of a name is that of the whole field, if there is one.
		{never(":method", "POST"), "\x13" + text("POST"), 34},
		{never(":method", "PUT"), "\x12" + text("PUT"), 34},
		{never(":status", "500"), "\x1e\x82\x6c\x00", 34},
		{never("accept-charset", ""), "\x1f\x00\x00", 34},
		{never("accept-encoding", ""), "\x1f\x01\x00", 34},
	} {
		c := encoder(40, field("a", "b"))
		encodes(t, c, x.want, x.f)
		has(t, c, x.size, 40)
	}
}

// A table without room: nothing is added.
func TestFieldsWithoutRoom(t *testing.T) {
	c := hpack.NewEncoder(31)
	for range 2 {
		encodes(t, c, "\x00\x00\x00\x82\x02\x03PUT\x00\x01a\x01b", field("", ""), field(":method", "GET"), field(":method", "PUT"), field("a", "b"))
		has(t, c, 0, 31)
	}
	c = hpack.NewEncoder(32)
	encodes(t, c, "\x40\x00\x00\xbe\x00\x01a\x00\xbe", field("", ""), field("", ""), field("a", ""), field("", ""))
	has(t, c, 32, 32)
}

// What is too large is not put into the table, so that it lets nothing go.
func TestPlainFieldsLeaveTheTable(t *testing.T) {
	c := encoder(100, field("a", "1"), field("b", "2"))
	large := strings.Repeat("~", 68)
	encodes(t, c, "\x00\x01c"+text(large), field("c", large))
	has(t, c, 68, 100)
	encodes(t, c, "\xbe\xbf", field("b", "2"), field("a", "1"))
	encodes(t, c, "\x40\x01c"+text(large[1:]), field("c", large[1:]))
	has(t, c, 100, 100)
	encodes(t, c, "\x40\x01a\x011", field("a", "1"))
	has(t, c, 34, 100)
}

func TestNeverIsInNoTable(t *testing.T) {
	c := hpack.NewEncoder(4096)
	for range 3 {
		encodes(t, c, "\x10\x01a\x01b", never("a", "b"))
		has(t, c, 0, 4096)
	}
	encodes(t, c, "\x40\x01a\x01b", field("a", "b"))
	encodes(t, c, "\x1f\x2f\x01b\xbe", never("a", "b"), field("a", "b"))
	has(t, c, 34, 4096)
}

// The index is the least one, and the newest entries have the least.
func TestIndexesOfEntries(t *testing.T) {
	c := encoder(4096, field("a", "1"), field("a", "2"), field("b", "3"))
	encodes(t, c, "\xc0\xbf\xbe", field("a", "1"), field("a", "2"), field("b", "3"))
	encodes(t, c, "\x1f\x30\x014", never("a", "4"))
	encodes(t, c, "\x7f\x00\x014", field("a", "4"))
	encodes(t, c, "\x7e\x015", field("a", "5"))
	encodes(t, c, "\x42\x03PUT\xbe", field(":method", "PUT"), field(":method", "PUT"))
}

// An index that has no place in the first octet goes on behind it.
func TestGreatIndexes(t *testing.T) {
	c := hpack.NewEncoder(65536)
	for i := range 300 {
		c.Encode(list(field("n"+strconv.Itoa(i), "")))
	}
	encodes(t, c, "\xbe", field("n299", ""))
	encodes(t, c, "\xfe", field("n235", ""))
	encodes(t, c, "\xff\x00", field("n234", ""))
	encodes(t, c, "\xff\x01", field("n233", ""))
	encodes(t, c, "\xff\x7f", field("n107", ""))
	encodes(t, c, "\xff\x80\x01", field("n106", ""))
	encodes(t, c, "\x1f\xda\x02\x01v", never("n0", "v"))
	encodes(t, c, "\x7f\xaa\x02\x01v", field("n0", "v"))
}

func TestUpdates(t *testing.T) {
	for _, x := range []struct {
		most []int
		want string
		max  int
	}{
		{nil, "", 100},
		{[]int{100}, "\x3f\x45", 100},
		{[]int{0}, "\x20", 0},
		{[]int{30}, "\x3e", 30},
		{[]int{31}, "\x3f\x00", 31},
		{[]int{32}, "\x3f\x01", 32},
		{[]int{4096}, "\x3f\xe1\x1f", 4096},
		{[]int{65535}, "\x3f\xe0\xff\x03", 65535},
		{[]int{65536}, "\x3f\xe1\xff\x03", 65536},
		{[]int{65537}, "\x3f\xe1\xff\x03", 65536},
		{[]int{math.MaxInt}, "\x3f\xe1\xff\x03", 65536},
		{[]int{-1}, "\x20", 0},
		{[]int{math.MinInt}, "\x20", 0},
		{[]int{0, 100}, "\x20\x3f\x45", 100},
		{[]int{100, 0}, "\x20", 0},
		{[]int{50, 50}, "\x3f\x13", 50},
		{[]int{50, 51}, "\x3f\x13\x3f\x14", 51},
		{[]int{51, 50}, "\x3f\x13", 50},
		{[]int{20, 10, 15}, "\x2a\x2f", 15},
		{[]int{10, 20, 15}, "\x2a\x2f", 15},
		{[]int{15, 20, 10}, "\x2a", 10},
		{[]int{20, 15, 10}, "\x2a", 10},
		{[]int{10, 20, 10}, "\x2a", 10},
		{[]int{20, 10, 20, 10, 30}, "\x2a\x3e", 30},
		// What is below 0 or too great is counted as 0 and the most ahead of all.
		{[]int{-2, -1}, "\x20", 0},
		{[]int{-1, 0}, "\x20", 0},
		{[]int{0, -1}, "\x20", 0},
		{[]int{-1, 5}, "\x20\x25", 5},
		{[]int{65536, 70000}, "\x3f\xe1\xff\x03", 65536},
		{[]int{70000, 65536}, "\x3f\xe1\xff\x03", 65536},
		{[]int{5, 70000}, "\x25\x3f\xe1\xff\x03", 65536},
	} {
		c := hpack.NewEncoder(100)
		for _, n := range x.most {
			c.SetMax(n)
			has(t, c, 0, 100)
		}
		encodes(t, c, x.want)
		has(t, c, 0, x.max)
		encodes(t, c, "")
		encodes(t, c, "\x82", field(":method", "GET"))
	}
}

// The updates are ahead of the fields, and each is told once.
func TestUpdatesAreToldOnce(t *testing.T) {
	c := encoder(100, field("a", "1"), field("b", "2"))
	c.SetMax(40)
	has(t, c, 68, 100)
	encodes(t, c, "\x3f\x09\xbe\x40\x01a\x011", field("b", "2"), field("a", "1"))
	has(t, c, 34, 40)
	encodes(t, c, "\xbe", field("a", "1"))
	// The calls ahead of the last block count no more.
	c.SetMax(90)
	encodes(t, c, "\x3f\x3b")
	has(t, c, 34, 90)
	c.SetMax(60)
	c.SetMax(80)
	encodes(t, c, "\x3f\x1d\x3f\x31\xbe", field("a", "1"))
	has(t, c, 34, 80)
}

// The least Max lets entries go though the last one has room for them.
func TestTheLeastMaxLetsEntriesGo(t *testing.T) {
	a, b := field("a", "1"), field("b", "2")
	for _, x := range []struct {
		least int
		want  string
		size  int
	}{
		{68, "\x3f\x25\x3f\x45\xbf\xbe", 68},
		{67, "\x3f\x24\x3f\x45\x40\x01a\x011\xbf", 68},
		{33, "\x3f\x02\x3f\x45\x40\x01a\x011\x40\x01b\x012", 68},
	} {
		c := encoder(100, a, b)
		c.SetMax(200)
		c.SetMax(x.least)
		c.SetMax(100)
		encodes(t, c, x.want, a, b)
		has(t, c, x.size, 100)
	}
}

// Whether a field is too large is asked by the Max that is told.
func TestFieldsBehindUpdates(t *testing.T) {
	c := hpack.NewEncoder(40)
	c.SetMax(33)
	encodes(t, c, "\x3f\x02\x00\x01a\x01b", field("a", "b"))
	c.SetMax(34)
	encodes(t, c, "\x3f\x03\x40\x01a\x01b", field("a", "b"))
}

// What two lists are written as is what both as one are written as.
func TestListsOneBehindTheOther(t *testing.T) {
	all := slices.Concat(append(requests(), responses()...)...)
	all = append(all, never("a", "b"), field("a", "b"), never("a", "b"), field("a", "b"))
	for _, most := range []int{0, 64, 100, 256, 4096} {
		whole := hpack.NewEncoder(most)
		whole.SetMax(most / 2)
		whole.SetMax(most)
		want := string(whole.Encode(all))
		for i := range len(all) + 1 {
			c := hpack.NewEncoder(most)
			c.SetMax(most / 2)
			c.SetMax(most)
			first := string(c.Encode(all[:i]))
			encodes(t, c, strings.TrimPrefix(want, first), all[i:]...)
			has(t, c, whole.Size(), whole.Max())
		}
	}
}

// Texts may be any octets, and long.
func TestAnyTexts(t *testing.T) {
	c := hpack.NewEncoder(65536)
	encodes(t, c, "\x40\x02\xff\x00\x03\x80\xc3\x0a", field("\xff\x00", "\x80\xc3\x0a"))
	long := strings.Repeat("\xff", 70000)
	encodes(t, c, "\x00\x7f\xf1\xa1\x04"+long+"\x00", field(long, ""))
	has(t, c, 37, 65536)
}

// R1: what is handed in stays, and is not kept.
func TestEncodeLeavesItsList(t *testing.T) {
	c := hpack.NewEncoder(4096)
	l := append(requests()[2], never("a", "b"))
	was := slices.Clone(l)
	c.Encode(l)
	if !slices.Equal(l, was) {
		t.Error(l)
	}
	for i := range l {
		l[i] = field("x", "y")
	}
	encodes(t, c, "\xbe\xbf", was[4], was[3])
}

// R1: what is answered is the caller's.
func TestEncodeAnswersOwnOctets(t *testing.T) {
	c := hpack.NewEncoder(4096)
	for range 2 {
		c.SetMax(0)
		c.SetMax(4096)
		b := c.Encode(list(field("a", "b"), never("c", "d")))
		want := string(b)
		more := append(b[:len(b):cap(b)], "more"...)
		for i := range more {
			more[i] = 0xee
		}
		encodes(t, c, "\xbe", field("a", "b"))
		if want != "\x20\x3f\xe1\x1f\x40\x01a\x01b\x10\x01c\x01d" {
			t.Errorf("%x", want)
		}
	}
}

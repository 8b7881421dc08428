package table_test

import (
	"math"
	"strings"
	"testing"

	"flume/api"
	"flume/table"
)

// appendix is the static table as RFC 7541, appendix A, tells it: a line a
// field, its name and its value parted by a space.
const appendix = `:authority
:method GET
:method POST
:path /
:path /index.html
:scheme http
:scheme https
:status 200
:status 204
:status 206
:status 304
:status 400
:status 404
:status 500
accept-charset
accept-encoding gzip, deflate
accept-language
accept-ranges
accept
access-control-allow-origin
age
allow
authorization
cache-control
content-disposition
content-encoding
content-language
content-length
content-location
content-range
content-type
cookie
date
etag
expect
expires
from
host
if-match
if-modified-since
if-none-match
if-range
if-unmodified-since
last-modified
link
location
max-forwards
proxy-authenticate
proxy-authorization
range
referer
refresh
retry-after
server
set-cookie
strict-transport-security
transfer-encoding
user-agent
vary
via
www-authenticate`

// wrongIndexes are those of no field, whatever the table holds.
var wrongIndexes = []int{math.MinInt, math.MinInt + 61, math.MinInt + 62, -62, -61, -1, 0, 1 << 20, math.MaxInt}

func field(name, value string) api.Field {
	return api.Field{Name: name, Value: value}
}

// static is the static table's fields in order.
func static() []api.Field {
	var list []api.Field
	for _, line := range strings.Split(appendix, "\n") {
		name, value, _ := strings.Cut(line, " ")
		list = append(list, field(name, value))
	}
	return list
}

// filled is a table to which these fields were added, in order.
func filled(most int, list ...api.Field) *table.Table {
	x := table.New(most)
	for _, f := range list {
		x.Add(f)
	}
	return x
}

// holds asks a table for all that can be seen of it: its Max, and its entries,
// the newest first.
func holds(t *testing.T, x *table.Table, most int, entries ...api.Field) {
	t.Helper()
	size := 0
	for i, want := range append(static(), entries...) {
		if f, ok := x.At(i + 1); f != want || !ok {
			t.Errorf("At(%d): %v, %v; want %v", i+1, f, ok, want)
		}
		if i >= 61 {
			size += len(want.Name) + len(want.Value) + 32
		}
	}
	for _, i := range append(wrongIndexes, 62+len(entries), 63+len(entries)) {
		if f, ok := x.At(i); f != (api.Field{}) || ok {
			t.Errorf("At(%d): %v, %v", i, f, ok)
		}
	}
	if x.Len() != len(entries) || x.Size() != size || x.Max() != most {
		t.Errorf("Len %d, Size %d, Max %d; want %d, %d, %d", x.Len(), x.Size(), x.Max(), len(entries), size, most)
	}
}

func finds(t *testing.T, x *table.Table, f api.Field, index int, whole bool) {
	t.Helper()
	for _, never := range []bool{false, true} {
		f.Never = never
		if i, is := x.Find(f); i != index || is != whole {
			t.Errorf("Find of %v: %d, %v; want %d, %v", f, i, is, index, whole)
		}
	}
}

func TestExample(t *testing.T) {
	a, b, c := field("a", "1"), field("b", "2"), field("c", "3")
	if n := table.Size(a); n != 34 {
		t.Error(n)
	}
	x := filled(100, a, b, c)
	holds(t, x, 100, c, b)
	x.SetMax(40)
	holds(t, x, 40, c)
	finds(t, x, field(":method", "PUT"), 2, false)
	finds(t, x, field(":path", "/"), 4, true)
	x.Add(field("12345", "6789"))
	holds(t, x, 40)
}

func TestStaticIsAppendixA(t *testing.T) {
	list := static()
	if len(list) != 61 {
		t.Fatal(len(list))
	}
	for i, want := range list {
		if f, ok := table.Static(i + 1); f != want || !ok {
			t.Errorf("Static(%d): %v, %v; want %v", i+1, f, ok, want)
		}
	}
}

func TestStaticOfWrongNumbers(t *testing.T) {
	for _, i := range append(wrongIndexes, 62, 63) {
		if f, ok := table.Static(i); f != (api.Field{}) || ok {
			t.Errorf("Static(%d): %v, %v", i, f, ok)
		}
	}
}

func TestSizeOfFields(t *testing.T) {
	for _, c := range []struct {
		f    api.Field
		size int
	}{
		{api.Field{}, 32},
		{api.Field{Never: true}, 32},
		{field("a", ""), 33},
		{field("", "ab"), 34},
		{field("custom-key", "custom-header"), 55},
		{api.Field{Name: "abc", Value: "de", Never: true}, 37},
		{field("é", "\x00\xff\xfe"), 37},
		{field(strings.Repeat("n", 70000), strings.Repeat("v", 5)), 70037},
	} {
		if n := table.Size(c.f); n != c.size {
			t.Errorf("Size of %.20q, %.20q: %d, not %d", c.f.Name, c.f.Value, n, c.size)
		}
	}
}

func TestMaxOfNew(t *testing.T) {
	for most, want := range map[int]int{
		math.MinInt: 0, -1: 0, 0: 0, 1: 1, 4096: 4096, 65535: 65535,
		65536: 65536, 65537: 65536, math.MaxInt: 65536,
	} {
		holds(t, table.New(most), want)
		x := filled(4096, field("a", "1"))
		x.SetMax(most)
		if x.Max() != want {
			t.Errorf("SetMax(%d): %d", most, x.Max())
		}
	}
	if table.MostTable != 65536 {
		t.Error(table.MostTable)
	}
}

func TestAddOfFieldsThatHaveRoom(t *testing.T) {
	a, b, c := field("a", "1"), field("bb", "22"), field("c", "")
	x := table.New(34 + 36 + 33)
	holds(t, x, 103)
	x.Add(a)
	holds(t, x, 103, a)
	x.Add(b)
	holds(t, x, 103, b, a)
	// The sizes may be together just the Max.
	x.Add(c)
	holds(t, x, 103, c, b, a)
}

// No more goes than must.
func TestAddLetsTheOldestGo(t *testing.T) {
	a, b, c := field("a", "1"), field("bb", "22"), field("c", "3")
	for _, d := range []struct {
		n    int
		left []api.Field
	}{
		{96, []api.Field{c, b, a}}, {97, []api.Field{c, b}}, {130, []api.Field{c, b}},
		{131, []api.Field{c}}, {166, []api.Field{c}}, {167, nil}, {200, nil},
	} {
		x := filled(200, a, b, c)
		f := field("d", strings.Repeat("v", d.n-33))
		x.Add(f)
		holds(t, x, 200, append([]api.Field{f}, d.left...)...)
	}
}

// A field that is too large leaves no entry, and itself stays out.
func TestAddOfTooLargeFields(t *testing.T) {
	a, b := field("a", "1"), field("b", "2")
	for _, n := range []int{101, 102, 1000, 65537, 1 << 20} {
		x := filled(100, a, b)
		x.Add(field(strings.Repeat("n", n-32), ""))
		holds(t, x, 100)
		// The table goes on.
		x.Add(b)
		holds(t, x, 100, b)
	}
	x := filled(100, a, b)
	whole := field("c", strings.Repeat("v", 67))
	x.Add(whole)
	holds(t, x, 100, whole)
}

func TestAddToTablesWithoutRoom(t *testing.T) {
	for _, most := range []int{math.MinInt, -1, 0, 1, 31} {
		x := table.New(most)
		x.Add(api.Field{})
		holds(t, x, max(most, 0))
	}
	holds(t, filled(32, api.Field{}, api.Field{}), 32, api.Field{})
}

func TestAddOfTheSameAgain(t *testing.T) {
	a := field("a", "1")
	holds(t, filled(200, a, a, a), 200, a, a, a)
	get := field(":method", "GET")
	holds(t, filled(200, get), 200, get)
}

func TestEntriesHaveNoNever(t *testing.T) {
	x := filled(100, api.Field{Name: "a", Value: "1", Never: true})
	holds(t, x, 100, field("a", "1"))
	holds(t, x.Clone(), 100, field("a", "1"))
}

func TestSetMaxLetsTheOldestGo(t *testing.T) {
	a, b, c := field("a", "1"), field("bb", "22"), field("c", "3")
	for _, d := range []struct {
		most int
		left []api.Field
	}{
		{65536, []api.Field{c, b, a}}, {104, []api.Field{c, b, a}}, {103, []api.Field{c, b}},
		{70, []api.Field{c, b}}, {69, []api.Field{c}}, {34, []api.Field{c}}, {33, nil}, {0, nil},
	} {
		x := filled(4096, a, b, c)
		x.SetMax(d.most)
		holds(t, x, d.most, d.left...)
		// What is gone does not come back.
		x.SetMax(4096)
		holds(t, x, 4096, d.left...)
		x.Add(a)
		holds(t, x, 4096, append([]api.Field{a}, d.left...)...)
	}
	x := filled(4096, a, b, c)
	x.SetMax(-5)
	holds(t, x, 0)
	x = filled(4096, a, b, c)
	x.SetMax(math.MaxInt)
	holds(t, x, 65536, c, b, a)
}

func TestAddHoldsToTheMaxThatIsSet(t *testing.T) {
	a, b, c := field("a", "1"), field("b", "2"), field("c", "3")
	x := filled(34, a)
	x.SetMax(68)
	x.Add(b)
	holds(t, x, 68, b, a)
	x.SetMax(67)
	holds(t, x, 67, b)
	x.Add(c)
	holds(t, x, 67, c)
}

func TestTheGreatestTable(t *testing.T) {
	x := table.New(65536)
	for i := range 2050 {
		x.Add(api.Field{})
		if want := min(i+1, 2048); x.Len() != want || x.Size() != 32*want {
			t.Fatalf("after %d: Len %d, Size %d", i+1, x.Len(), x.Size())
		}
	}
	if _, ok := x.At(62 + 2047); !ok {
		t.Error("the oldest is not there")
	}
	if _, ok := x.At(62 + 2048); ok {
		t.Error("more than have room")
	}
	large := field("", strings.Repeat("v", 65536-32))
	x.Add(large)
	holds(t, x, 65536, large)
}

func TestFindOfStaticFields(t *testing.T) {
	x := table.New(4096)
	for i, f := range static() {
		finds(t, x, f, i+1, true)
	}
	for name, i := range map[string]int{
		":authority": 1, ":method": 2, ":path": 4, ":scheme": 6, ":status": 8,
		"accept-encoding": 16, "cookie": 32, "www-authenticate": 61,
	} {
		finds(t, x, field(name, "none such"), i, false)
	}
	finds(t, x, field(":status", ""), 8, false)
	finds(t, x, field(":path", "/index.html "), 4, false)
}

func TestFindOfNone(t *testing.T) {
	x := filled(4096, field("a", "1"), field("b", ""))
	for _, f := range []api.Field{
		{}, field("", "GET"), field("", "1"), field("GET", ":method"), field("1", "a"),
		field("A", "1"), field(":METHOD", "GET"), field("a ", "1"), field("aa", "1"), field(":metho", "dGET"),
	} {
		finds(t, x, f, 0, false)
	}
}

func TestFindOfEntries(t *testing.T) {
	x := filled(4096, field("a", "1"), field("b", ""), field("c", "3"), field("", ""))
	finds(t, x, field("", ""), 62, true)
	finds(t, x, field("", "x"), 62, false)
	finds(t, x, field("c", "3"), 63, true)
	finds(t, x, field("c", ""), 63, false)
	finds(t, x, field("b", ""), 64, true)
	finds(t, x, field("b", "2"), 64, false)
	finds(t, x, field("a", "1"), 65, true)
	finds(t, x, field("a", "2"), 65, false)
	x.SetMax(65)
	finds(t, x, field("c", "3"), 0, false)
	finds(t, x, field("a", "1"), 0, false)
	finds(t, x, field("", ""), 62, true)
}

// Of several the least index counts, and a whole field counts ahead of a name
// whatever their indexes are.
func TestFindTellsTheLeast(t *testing.T) {
	x := filled(4096,
		field("a", "1"), field("a", "2"), field("a", "1"), field("a", "3"),
		field(":method", "PUT"), field(":method", "GET"), field("cookie", "x"), field("cookie", ""))
	finds(t, x, field("a", "1"), 67, true)
	finds(t, x, field("a", "2"), 68, true)
	finds(t, x, field("a", "3"), 66, true)
	finds(t, x, field("a", "4"), 66, false)
	finds(t, x, field(":method", "GET"), 2, true)
	finds(t, x, field(":method", "PUT"), 65, true)
	finds(t, x, field(":method", "HEAD"), 2, false)
	finds(t, x, field("cookie", "x"), 63, true)
	finds(t, x, field("cookie", ""), 32, true)
	finds(t, x, field("cookie", "y"), 32, false)
}

func TestFindOfWhatWasAddedWithNever(t *testing.T) {
	x := filled(4096, api.Field{Name: "a", Value: "1", Never: true})
	finds(t, x, field("a", "1"), 62, true)
	finds(t, x, field("a", "2"), 62, false)
}

func TestAskingChangesNothing(t *testing.T) {
	a, b := field("a", "1"), field("b", "2")
	x := filled(100, a, b)
	for range 3 {
		finds(t, x, a, 63, true)
		finds(t, x, field("n", ""), 0, false)
		x.Clone()
		holds(t, x, 100, b, a)
	}
}

func TestCloneIsTheSame(t *testing.T) {
	a, b, c := field("a", "1"), field("b", "2"), field("c", "3")
	holds(t, table.New(0).Clone(), 0)
	holds(t, table.New(77).Clone(), 77)
	holds(t, filled(200, a, b, c).Clone(), 200, c, b, a)
	x := filled(200, a, b, c)
	x.SetMax(70)
	holds(t, x.Clone(), 70, c, b)
	holds(t, x.Clone().Clone(), 70, c, b)
}

// Whatever is done to the one is not seen of the other: R3.
func TestCloneGoesOnByItself(t *testing.T) {
	a, b, c, d := field("a", "1"), field("b", "2"), field("c", "3"), field("d", "4")
	for _, add := range []api.Field{c, field("large", strings.Repeat("v", 200))} {
		for _, most := range []int{0, 34, 4096} {
			x := filled(200, a, b)
			y := x.Clone()
			x.Add(add)
			x.SetMax(most)
			x.Add(c)
			holds(t, y, 200, b, a)
			y.Add(d)
			z := y.Clone()
			y.SetMax(40)
			y.Add(a)
			holds(t, y, 40, a)
			holds(t, z, 200, d, b, a)
			finds(t, z, d, 62, true)
		}
	}
}

// A table that has room behind its entries shares it with none of its clones.
func TestClonesAreApart(t *testing.T) {
	a, b, c := field("a", "1"), field("b", "2"), field("c", "3")
	x := filled(1000, a, a, a, a, a)
	x.SetMax(68)
	x.SetMax(1000)
	y, z := x.Clone(), x.Clone()
	y.Add(b)
	z.Add(c)
	holds(t, x, 1000, a, a)
	holds(t, y, 1000, b, a, a)
	holds(t, z, 1000, c, a, a)
}

func TestTablesAreApart(t *testing.T) {
	a, b := field("a", "1"), field("b", "2")
	x, y := table.New(100), table.New(200)
	x.Add(a)
	holds(t, y, 200)
	y.Add(b)
	x.SetMax(0)
	holds(t, x, 0)
	holds(t, y, 200, b)
	f, _ := y.At(62)
	x.SetMax(100)
	x.Add(f)
	y.SetMax(0)
	holds(t, x, 100, b)
}

package hpack_test

import (
	"math/bits"
	"math/rand"
	"reflect"
	"strings"
	"testing"

	"flume/api"
	"flume/hints"
	"flume/hpack"
	"flume/table"
)

// staticFields is the static table; no field has the index 0.
var staticFields = func() []api.Field {
	out := list(api.Field{})
	for i := range 61 {
		f, _ := table.Static(i + 1)
		out = append(out, f)
	}
	return out
}()

// known is a table by the words of its chapter: the newest entry first.
type known struct {
	most    int
	entries []api.Field
}

func counted(n int) int {
	switch {
	case n < 0:
		return 0
	case n > 65536:
		return 65536
	}
	return n
}

func sum(l []api.Field) int {
	n := 0
	for _, f := range l {
		n += 32 + len(f.Name+f.Value)
	}
	return n
}

func (k *known) setMax(n int) {
	k.most = n
	for sum(k.entries) > n {
		k.entries = k.entries[:len(k.entries)-1]
	}
}

func (k *known) add(f api.Field) {
	k.entries = append(list(field(f.Name, f.Value)), k.entries...)
	for sum(k.entries) > k.most {
		k.entries = k.entries[:len(k.entries)-1]
	}
}

// all is the fields of the static table and the entries by their indexes.
func (k *known) all() []api.Field {
	return append(staticFields[:len(staticFields):len(staticFields)], k.entries...)
}

// firstOf is the least index of what is asked, or 0.
func (k *known) firstOf(asked func(api.Field) bool) int {
	for i, f := range k.all() {
		if i > 0 && asked(f) {
			return i
		}
	}
	return 0
}

// encoded is what a model writes; the limits are those behind the last block.
func (k *known) encoded(limits []int, l []api.Field) string {
	var b strings.Builder
	least := 65536
	for _, n := range limits {
		least = min(least, counted(n))
	}
	if len(limits) > 0 {
		last := counted(limits[len(limits)-1])
		if least < last {
			b.WriteString(number(0x20, 5, least))
		}
		b.WriteString(number(0x20, 5, last))
		k.setMax(least)
		k.setMax(last)
	}
	for _, f := range l {
		b.WriteString(k.encodedField(f))
	}
	return b.String()
}

func (k *known) encodedField(f api.Field) string {
	whole := k.firstOf(func(x api.Field) bool { return x.Name == f.Name && x.Value == f.Value })
	name := whole
	if whole == 0 {
		name = k.firstOf(func(x api.Field) bool { return x.Name == f.Name })
	}
	texts := string(hints.PutText(f.Value))
	if name == 0 {
		texts = string(hints.PutText(f.Name)) + texts
	}
	switch {
	case f.Never:
		return number(0x10, 4, name) + texts
	case whole > 0:
		return number(0x80, 7, whole)
	case sum(list(f)) > k.most:
		return number(0, 4, name) + texts
	}
	k.add(f)
	return number(0x40, 6, name) + texts
}

func number(first byte, prefix, n int) string {
	b, _ := hints.PutInt(first, prefix, n)
	return string(b)
}

// decoded is what a model reads, or false. Each bit of a first octet is asked
// on its own.
func (k *known) decoded(limit int, b string) ([]api.Field, bool) {
	var out []api.Field
	for head := true; ; {
		zeros := 0
		if b != "" {
			zeros = min(bits.LeadingZeros8(b[0]), 4)
		}
		if head && (b == "" || zeros != 2) {
			head = false
			if k.most > limit {
				return nil, false
			}
		}
		if b == "" {
			return out, true
		}
		if zeros == 2 && !head {
			return nil, false
		}
		n, size, e := hints.GetInt([]byte(b), []int{7, 6, 5, 4, 4}[zeros])
		if e != api.OK {
			return nil, false
		}
		b = b[size:]
		if zeros == 2 {
			if n > limit {
				return nil, false
			}
			k.setMax(n)
			continue
		}
		f, left, ok := k.decodedField(zeros, n, b)
		if !ok {
			return nil, false
		}
		b = left
		out = append(out, f)
	}
}

func (k *known) decodedField(zeros, n int, b string) (api.Field, string, bool) {
	all := k.all()
	if n >= len(all) || zeros == 0 && n == 0 {
		return api.Field{}, "", false
	}
	f := all[n]
	if zeros == 0 {
		return f, b, true
	}
	texts := []*string{&f.Value}
	if n == 0 {
		texts = []*string{&f.Name, &f.Value}
	}
	for _, t := range texts {
		s, size, e := hints.GetText([]byte(b))
		if e != api.OK {
			return api.Field{}, "", false
		}
		*t = s
		b = b[size:]
	}
	f.Never = zeros == 3
	if zeros == 1 {
		k.add(f)
	}
	return f, b, true
}

// someField is one of few, so that many are found.
func someField(r *rand.Rand) api.Field {
	f := field([]string{"", "a", "b", ":method", "cookie", "custom-key"}[r.Intn(6)], []string{"", "1", "GET", "custom-value"}[r.Intn(4)])
	if r.Intn(8) == 0 {
		f.Value = strings.Repeat("v", r.Intn(300))
	}
	f.Never = r.Intn(4) == 0
	return f
}

func someFields(r *rand.Rand) []api.Field {
	var l []api.Field
	for range r.Intn(6) {
		l = append(l, someField(r))
	}
	return l
}

func someLimit(r *rand.Rand) int {
	return []int{-1, 0, 32, r.Intn(100), r.Intn(400), 70000}[r.Intn(6)]
}

func TestEndsAreAsThePlainModel(t *testing.T) {
	r := rand.New(rand.NewSource(1))
	for range 300 {
		first := someLimit(r)
		c, k := hpack.NewEncoder(first), &known{most: counted(first)}
		d := hpack.NewDecoder(first, 1<<20)
		for range 30 {
			var limits []int
			for range r.Intn(4) * r.Intn(2) {
				limits = append(limits, someLimit(r))
			}
			for _, n := range limits {
				c.SetMax(n)
				d.SetMax(n)
			}
			// The decoder's limit is the last one; the least one is below it.
			l := someFields(r)
			want := k.encoded(limits, l)
			encodes(t, c, want, l...)
			has(t, c, sum(k.entries), k.most)
			decodes(t, d, want, l...)
			has(t, d, sum(k.entries), k.most)
			if t.Failed() {
				t.Fatalf("limits %v", limits)
			}
		}
	}
}

// asDecoder asks a decoder and its model for a block, and tells whether they
// may go on.
func asDecoder(t *testing.T, d *hpack.Decoder, k *known, limit, list int, b string) bool {
	t.Helper()
	want, ok := k.decoded(limit, b)
	switch {
	case !ok:
		fails(t, d, b, api.ErrForm)
		fails(t, d, b, api.ErrState)
		return false
	case sum(want) > list:
		fails(t, d, b, api.ErrLong)
	default:
		decodes(t, d, b, want...)
	}
	has(t, d, sum(k.entries), k.most)
	return !t.Failed()
}

// someBlock is a right one, or a right one with an octet changed, cut off or
// more.
func someBlock(r *rand.Rand, k known, limit int) string {
	k.entries = append([]api.Field{}, k.entries...)
	var limits []int
	if r.Intn(3) == 0 || k.most > limit {
		limits = []int{r.Intn(limit + 1)}
	}
	b := []byte(k.encoded(limits, someFields(r)))
	switch {
	case len(b) == 0 || r.Intn(5) > 0:
	case r.Intn(3) == 0:
		b[r.Intn(len(b))] = byte(r.Intn(256))
	case r.Intn(3) == 0:
		b = b[:r.Intn(len(b))]
	default:
		b = append(b, byte(r.Intn(256)))
	}
	return string(b)
}

func TestDecoderIsAsThePlainModel(t *testing.T) {
	r := rand.New(rand.NewSource(2))
	good, bad := 0, 0
	for range 3000 {
		limit, list := counted(someLimit(r)), r.Intn(400)-10
		d, k := hpack.NewDecoder(limit, list), &known{most: limit}
		for range 12 {
			if r.Intn(6) == 0 {
				limit = counted(someLimit(r))
				d.SetMax(limit)
			}
			if !asDecoder(t, d, k, limit, list, someBlock(r, *k, limit)) {
				bad++
				break
			}
			good++
		}
		if t.Failed() {
			t.FailNow()
		}
	}
	if good < 1000 || bad < 1000 {
		t.Errorf("%d good, %d bad", good, bad)
	}
}

// Rows of one to three octets of those that mean something.
func TestDecodeOfShortBlocks(t *testing.T) {
	some := []byte("\x00\x01\x02\x0f\x10\x11\x1f\x20\x22\x3e\x3f\x40\x41\x7d\x7e\x7f\x80\x81\x82\xbd\xbe\xbf\xff")
	for i := range 256 * len(some) * len(some) {
		b := string([]byte{byte(i), some[i/256%len(some)], some[i/256/len(some)]})
		for n := range 4 {
			asDecoder(t, hpack.NewDecoder(40, 80), &known{most: 40}, 40, 80, b[:n])
		}
		if t.Failed() {
			t.FailNow()
		}
	}
}

// R4: the same calls have the same answers.
func TestSameCallsSameAnswers(t *testing.T) {
	told := func() []any {
		r := rand.New(rand.NewSource(3))
		c, d := hpack.NewEncoder(200), hpack.NewDecoder(200, 300)
		var out []any
		for range 300 {
			b := c.Encode(someFields(r))
			l, e := d.Decode(b)
			out = append(out, b, l, e, c.Size(), d.Size(), d.Max())
		}
		return out
	}
	if !reflect.DeepEqual(told(), told()) {
		t.Error("not the same")
	}
}

func FuzzDecode(f *testing.F) {
	for _, b := range wrongBlocks() {
		f.Add(100, 1000, 100, b, "\x82")
	}
	f.Add(4096, 100, 50, "\x3f\x13\x40\x01a\x01b\xbe", "\xbe\x7e\x01c")
	f.Fuzz(func(t *testing.T, most, list, limit int, one, two string) {
		d, k := hpack.NewDecoder(most, list), &known{most: counted(most)}
		if !asDecoder(t, d, k, counted(most), list, one) {
			return
		}
		d.SetMax(limit)
		if asDecoder(t, d, k, counted(limit), list, two) {
			asDecoder(t, d, k, counted(limit), list, one)
		}
	})
}

func FuzzEncode(f *testing.F) {
	f.Add(4096, 100, 50, "a", "b", true)
	f.Add(0, -1, 70000, ":method", "GET", false)
	f.Fuzz(func(t *testing.T, most, one, two int, name, value string, never bool) {
		c, k, d := hpack.NewEncoder(most), &known{most: counted(most)}, hpack.NewDecoder(most, 1<<40)
		l := list(api.Field{Name: name, Value: value, Never: never}, field(name, ""), field(value, name), field(name, value))
		for i := range 3 {
			var limits []int
			if i > 0 {
				limits = []int{one, two}[:i]
			}
			for _, n := range limits {
				c.SetMax(n)
				d.SetMax(n)
			}
			want := k.encoded(limits, l)
			encodes(t, c, want, l...)
			has(t, c, sum(k.entries), k.most)
			decodes(t, d, want, l...)
			has(t, d, sum(k.entries), k.most)
		}
	})
}

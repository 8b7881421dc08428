package fields_test

import (
	"math/rand"
	"slices"
	"strings"
	"sync"
	"testing"

	"flume/api"
	"flume/fields"
)

// Texts at which the chapter turns, and others.
var (
	somePseudo = []string{":method", ":scheme", ":authority", ":path", ":status"}
	someNames  = []string{
		"a", "b", "content-length", "content-length", "te", "te", "via", "forwarded", "x-hop-a", "x-hop-", "x-hop", "host",
		"connection", "proxy-connection", "keep-alive", "transfer-encoding", "upgrade", "Host", "", ":", ":a", "a:b", "a b", "\x7f", "{",
	}
	someValues = []string{
		"", "a", "trailers", "trailers", "gzip", "5", "5", "6", "05", "200", "404", "099", "/", "*", "GET", "CONNECT", "OPTIONS",
		"http", " a", "a ", "\ta", "a\t", "a b", "a\nb", "a\rb", "a\x00b", "\x80", "999999999999999", "1000000000000000",
	}
	rightNames  = []string{"a", "b", "host", "te", "via", "forwarded", "x-hop-a", "x-hop-", "content-length", "cookie", "!~", "connections"}
	rightValues = []string{"", "a", "a b", "5", "\xff", "x:y", "a\tb", "\x01"}
)

func one(r *rand.Rand, l []string) string {
	return l[r.Intn(len(l))]
}

// someRight makes fields of a kind that may be one.
func someRight(r *rand.Rand, kind int) []api.Field {
	var l []api.Field
	switch {
	case kind == 0 && r.Intn(4) == 0:
		l = of(":method", "CONNECT", ":authority", one(r, []string{"x:1", "h"}))
	case kind == 0:
		l = of(":method", one(r, []string{"GET", "POST", "OPTIONS"}), ":scheme", one(r, []string{"http", "https"}), ":path", one(r, []string{"/", "/a", "/a?b"}))
		if l[0].Value == "OPTIONS" && r.Intn(2) == 0 {
			l[2].Value = "*"
		}
		if r.Intn(2) == 0 {
			l = with(l, ":authority", one(r, []string{"", "h"}))
		}
	case kind == 1:
		l = of(":status", one(r, []string{"100", "200", "999"}))
	}
	r.Shuffle(len(l), func(i, j int) { l[i], l[j] = l[j], l[i] })
	length := one(r, []string{"0", "5", "05", "999999999999999"})
	for range r.Intn(5) {
		f := api.Field{Name: one(r, rightNames), Value: one(r, rightValues), Never: r.Intn(4) == 0}
		switch f.Name {
		case "te":
			f.Value = "trailers"
		case "content-length":
			f.Value = length
		}
		l = append(l, f)
	}
	return l
}

// damage changes some place of fields.
func damage(r *rand.Rand, l []api.Field) []api.Field {
	i := r.Intn(len(l) + 1)
	f := api.Field{Name: one(r, someNames), Value: one(r, someValues)}
	if r.Intn(3) == 0 {
		f.Name = one(r, somePseudo)
	}
	if i == len(l) {
		return append(l, f)
	}
	switch r.Intn(8) {
	case 0:
		return slices.Insert(l, i, f)
	case 1:
		return slices.Delete(l, i, i+1)
	case 2:
		l[i].Name = f.Name
	case 3:
		l[i].Value = f.Value
	case 4:
		j := r.Intn(len(l))
		l[i], l[j] = l[j], l[i]
	case 5:
		return append(l, l[i])
	case 6:
		l[i].Name = withSomeByte(r, l[i].Name)
	case 7:
		l[i].Value = withSomeByte(r, l[i].Value)
	}
	return l
}

// withSomeByte is s with one byte more, somewhere.
func withSomeByte(r *rand.Rand, s string) string {
	at := r.Intn(len(s) + 1)
	return s[:at] + string([]byte{byte(r.Intn(256))}) + s[at:]
}

// holdAll holds all calls against the plain model.
func holdAll(t *testing.T, l []api.Field) {
	t.Helper()
	for _, k := range kinds {
		hold(t, k.name, l, k.call(l), k.plain(l))
	}
	if got := fields.Size(l); got != plainSize(l) {
		t.Errorf("Size of %s: %d", show(l), got)
	}
	forwarded := fields.Forward(l)
	if !slices.Equal(forwarded, plainForward(l)) {
		t.Errorf("Forward of %s: %s", show(l), show(forwarded))
	}
	holdForwarded(t, l, forwarded)
}

// holdForwarded asks that of a right message a right one goes on, that it says
// the same, and that behind that it is as it is.
func holdForwarded(t *testing.T, l, forwarded []api.Field) {
	t.Helper()
	for _, k := range kinds {
		if was := k.call(l); was.ok && k.call(forwarded) != was {
			t.Errorf("%s of %s: %+v; forwarded %+v", k.name, show(l), was, k.call(forwarded))
		}
	}
	if again := fields.Forward(forwarded); !slices.Equal(again, forwarded) {
		t.Errorf("Forward of %s: %s; of that: %s", show(l), show(forwarded), show(again))
	}
}

func TestAllIsAsThePlainModel(t *testing.T) {
	r := rand.New(rand.NewSource(1))
	var right, wrong [3]int
	for range 200_000 {
		which := r.Intn(len(kinds))
		l := someRight(r, which)
		hold(t, kinds[which].name, l, answer{ok: kinds[which].call(l).ok}, answer{ok: true})
		for range r.Intn(4) {
			l = damage(r, l)
		}
		holdAll(t, l)
		if kinds[which].plain(l).ok {
			right[which]++
		} else {
			wrong[which]++
		}
	}
	for which, k := range kinds {
		if right[which] < 10_000 || wrong[which] < 10_000 {
			t.Errorf("%s: just %d right and %d wrong ones were made", k.name, right[which], wrong[which])
		}
	}
}

// All lists of up to three of some fields.
func TestShortListsAreAsThePlainModel(t *testing.T) {
	some := of(
		":method", "GET", ":method", "CONNECT", ":method", "OPTIONS", ":scheme", "http", ":scheme", "", ":authority", "h", ":authority", "",
		":path", "/", ":path", "*", ":path", "", ":status", "200", ":status", "20", ":a", "b", "a", "b", "a", " b", "A", "b", "", "b",
		"te", "trailers", "te", "x", "upgrade", "x", "content-length", "5", "content-length", "05", "content-length", "", "via", "x", "x-hop-a", "x",
	)
	holdAll(t, nil)
	for _, f := range some {
		holdAll(t, []api.Field{f})
		for _, g := range some {
			holdAll(t, []api.Field{f, g})
			for _, h := range some {
				holdAll(t, []api.Field{f, g, h})
			}
		}
	}
}

// The same calls have the same answers (R4), by many at once too.
func TestSameCallsHaveTheSameAnswers(t *testing.T) {
	l := of(":method", "PUT", ":scheme", "http", ":authority", "h", ":path", "/a", "content-length", "5", "te", "trailers", "x-hop-a", "b")
	want := plainRequest(l)
	var all sync.WaitGroup
	for range 8 {
		all.Go(func() {
			for range 2000 {
				hold(t, "Request", l, told(fields.Request(l)), want)
				hold(t, "Response", l, told(fields.Response(l)), answer{})
				if got := fields.Forward(l); !slices.Equal(got, l[:5]) {
					t.Errorf("Forward of %s: %s", show(l), show(got))
				}
			}
		})
	}
	all.Wait()
}

// Great lists and texts end, right or not.
func TestGreatLists(t *testing.T) {
	const many = 1_000_000
	for _, k := range kinds {
		l := with(k.right)
		for range many - len(l) - 1 {
			l = append(l, api.Field{Name: "content-length", Value: "5"})
		}
		if got := k.call(l); !got.ok || got.m.Length > 5 {
			t.Errorf("%s of a million fields: %+v", k.name, got)
		}
		l = append(l, api.Field{Name: "content-length", Value: "6"})
		if got := k.call(l); got != (answer{}) {
			t.Errorf("%s of a million fields with a wrong one: %+v", k.name, got)
		}
		long := strings.Repeat("v", 10_000_000)
		holdLong := func(right bool, name, value string) {
			if got := k.call(with(k.right, name, value)); got.ok != right || !right && got != (answer{}) {
				t.Errorf("%s of a long field: %+v", k.name, got)
			}
		}
		holdLong(true, "a", long)
		holdLong(true, long, "a")
		holdLong(false, "a", long+" ")
		holdLong(false, long+":", "a")
	}
	if got := fields.Forward(make([]api.Field, many)); len(got) != many {
		t.Errorf("%d of a million are forwarded", len(got))
	}
}

func FuzzFields(f *testing.F) {
	f.Add(":status", "200", "content-length", "5", "a", "b")
	f.Add(":method", "CONNECT", ":authority", "h", "te", "trailers")
	f.Add("x-hop-a", "1", "via", "", "forwarded", " ")
	f.Fuzz(func(t *testing.T, n1, v1, n2, v2, n3, v3 string) {
		holdAll(t, of(n1, v1, n2, v2, n3, v3))
		holdAll(t, with(of(":method", "GET", ":scheme", "http", ":path", "/"), n1, v1, n2, v2, n3, v3))
	})
}

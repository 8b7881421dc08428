package fields_test

import (
	"slices"
	"strconv"
	"strings"
	"testing"

	"flume/api"
	"flume/fields"
)

// hold asks for just this answer.
func hold(t *testing.T, name string, l []api.Field, got, want answer) {
	t.Helper()
	if got != want {
		t.Errorf("%s of %s: %+v; want %+v", name, show(l), got, want)
	}
}

// holdKinds asks each kind whether a field may stand behind what is right.
func holdKinds(t *testing.T, right bool, field ...string) {
	t.Helper()
	for _, k := range kinds {
		l := with(k.right, field...)
		if got := k.call(l); got.ok != right || !right && got != (answer{}) {
			t.Errorf("%s of %s: %+v; want %t", k.name, show(l), got, right)
		}
		hold(t, k.name, l, k.call(l), k.plain(l))
	}
}

func request(l ...string) answer {
	return told(fields.Request(of(l...)))
}

func response(l ...string) answer {
	return told(fields.Response(of(l...)))
}

// The examples of the chapter.
func TestExamples(t *testing.T) {
	get := of(":method", "GET", ":scheme", "http", ":path", "/")
	hold(t, "Request", get, told(fields.Request(get)), answer{api.Message{Method: "GET", Scheme: "http", Path: "/", Length: -1}, true})
	l := with(get, "Host", "x")
	hold(t, "Request", l, told(fields.Request(l)), answer{})
	l = of(":path", "/", "a", "b", ":method", "GET", ":scheme", "http")
	hold(t, "Request", l, told(fields.Request(l)), answer{})
	for _, c := range []struct {
		lengths []string
		want    answer
	}{
		{[]string{"content-length", "5", "content-length", "5"}, answer{api.Message{Status: 200, Length: 5}, true}},
		{[]string{"content-length", "5", "content-length", "6"}, answer{}},
		{[]string{"content-length", "05"}, answer{api.Message{Status: 200, Length: 5}, true}},
	} {
		l := with(of(":status", "200"), c.lengths...)
		hold(t, "Response", l, told(fields.Response(l)), c.want)
	}
}

func TestRequestTellsWhatIsThere(t *testing.T) {
	for _, c := range []struct {
		l    []api.Field
		want api.Message
	}{
		{
			of(":method", "POST", ":scheme", "https", ":authority", "a.org:80", ":path", "/a?b=c", "content-length", "17", "a", "b"),
			api.Message{Method: "POST", Scheme: "https", Authority: "a.org:80", Path: "/a?b=c", Length: 17},
		},
		// In any order, each of them.
		{
			of(":path", "/x", ":authority", "h", ":scheme", "s", ":method", "M"),
			api.Message{Method: "M", Scheme: "s", Authority: "h", Path: "/x", Length: -1},
		},
		// The authority may be empty; the scheme, the method may be any.
		{
			of(":method", "get", ":scheme", "x!y", ":authority", "", ":path", "//"),
			api.Message{Method: "get", Scheme: "x!y", Path: "//", Length: -1},
		},
		{of(":method", "OPTIONS", ":scheme", "http", ":path", "*"), api.Message{Method: "OPTIONS", Scheme: "http", Path: "*", Length: -1}},
		{of(":method", "OPTIONS", ":scheme", "http", ":path", "/*"), api.Message{Method: "OPTIONS", Scheme: "http", Path: "/*", Length: -1}},
		{of(":method", "CONNECT", ":authority", "x:1"), api.Message{Method: "CONNECT", Authority: "x:1", Length: -1}},
		{of(":authority", "x:1", ":method", "CONNECT", "content-length", "0"), api.Message{Method: "CONNECT", Authority: "x:1", Length: 0}},
		// CONNECT is that alone.
		{of(":method", "connect", ":scheme", "http", ":path", "/"), api.Message{Method: "connect", Scheme: "http", Path: "/", Length: -1}},
		{of(":method", "CONNECTS", ":scheme", "http", ":path", "/"), api.Message{Method: "CONNECTS", Scheme: "http", Path: "/", Length: -1}},
		// Other fields say nothing of it.
		{
			of(":method", "GET", ":scheme", "http", ":path", "/", "method", "PUT", "host", "h", "path", "/p", "status", "200", "length", "3"),
			api.Message{Method: "GET", Scheme: "http", Path: "/", Length: -1},
		},
	} {
		hold(t, "Request", c.l, told(fields.Request(c.l)), answer{c.want, true})
	}
}

func TestRequestOfPseudoFieldsThatMayNotBe(t *testing.T) {
	for _, l := range [][]api.Field{
		nil,
		{},
		of("a", "b"),
		of(":method", "GET"),
		of(":scheme", "http", ":path", "/"),
		of(":method", "", ":scheme", "http", ":path", "/"),
		of(":method", "GET", ":path", "/"),
		of(":method", "GET", ":scheme", "", ":path", "/"),
		of(":method", "GET", ":scheme", "http"),
		of(":method", "GET", ":scheme", "http", ":authority", "/"),
		of(":method", "GET", ":scheme", "http", ":path", ""),
		of(":method", "GET", ":scheme", "http", ":path", "a"),
		of(":method", "GET", ":scheme", "http", ":path", "a/"),
		of(":method", "GET", ":scheme", "http", ":path", "*"),
		of(":method", "options", ":scheme", "http", ":path", "*"),
		of(":method", "OPTIONS", ":scheme", "http", ":path", "**"),
		of(":method", "OPTIONS", ":scheme", "http", ":path", "*/"),
		of(":method", "OPTIONS", ":scheme", "http", ":path", ""),
		of(":method", "OPTIONS", ":scheme", "", ":path", "*"),
		of(":method", "OPTIONS", ":path", "*"),
		of(":method", "OPTIONS", ":scheme", "http"),
		of(":method", "CONNECT"),
		of(":method", "CONNECT", ":authority", ""),
		of(":method", "CONNECT", ":authority", "x:1", ":scheme", "http"),
		of(":method", "CONNECT", ":authority", "x:1", ":scheme", ""),
		of(":method", "CONNECT", ":authority", "x:1", ":path", "/"),
		of(":method", "CONNECT", ":authority", "x:1", ":path", ""),
		of(":method", "CONNECT", ":authority", "x:1", ":scheme", "http", ":path", "/"),
		of(":method", "CONNECT", ":scheme", "http", ":path", "/"),
		of(":method", "CONNECT", "host", "x:1"),
		of("method", "GET", "scheme", "http", "path", "/"),
	} {
		hold(t, "Request", l, told(fields.Request(l)), answer{})
	}
	// None of them twice, be it the same or another, side by side or not.
	whole := of(":method", "GET", ":scheme", "http", ":authority", "h", ":path", "/")
	for i, f := range whole {
		for _, value := range []string{f.Value, "/other", ""} {
			for _, l := range [][]api.Field{
				with(whole, f.Name, value),
				slices.Insert(slices.Clone(whole), i, api.Field{Name: f.Name, Value: value}),
				slices.Insert(slices.Clone(whole), 0, api.Field{Name: f.Name, Value: value}),
			} {
				hold(t, "Request", l, told(fields.Request(l)), answer{})
			}
		}
	}
	// CONNECT's alike.
	for _, l := range [][]api.Field{of(":method", "CONNECT", ":authority", "x", ":authority", "x"), of(":method", "CONNECT", ":method", "CONNECT", ":authority", "x")} {
		hold(t, "Request", l, told(fields.Request(l)), answer{})
	}
}

// Each pseudo field is there, or not, or empty, or there twice, and has one of
// some values.
func TestRequestOfAllPseudoFields(t *testing.T) {
	choices := map[string][]string{
		":method":    {"GET", "CONNECT", "OPTIONS", ""},
		":scheme":    {"http", ""},
		":authority": {"h", ""},
		":path":      {"/", "*", "/a", "x", ""},
	}
	lists := [][]api.Field{nil}
	for _, name := range []string{":scheme", ":path", ":authority", ":method"} {
		var next [][]api.Field
		for _, l := range lists {
			next = append(next, l)
			for _, one := range choices[name] {
				next = append(next, with(l, name, one), with(l, name, one, name, one))
			}
		}
		lists = next
	}
	right := 0
	for _, l := range lists {
		want := plainRequest(l)
		hold(t, "Request", l, told(fields.Request(l)), want)
		if want.ok {
			right++
		}
	}
	// GET with two paths, OPTIONS with three, each with three authorities; and
	// CONNECT.
	if right != 3*2+3*3+1 {
		t.Errorf("%d are right", right)
	}
}

func TestResponseTellsWhatIsThere(t *testing.T) {
	hold(t, "Response", nil, response(":status", "204"), answer{api.Message{Status: 204, Length: -1}, true})
	hold(t, "Response", nil, response(":status", "103", "a", "b", "content-length", "0"), answer{api.Message{Status: 103, Length: 0}, true})
	hold(t, "Response", nil, response(":status", "200", "status", "404", "te", "trailers"), answer{api.Message{Status: 200, Length: -1}, true})
}

func TestResponseOfEachStatus(t *testing.T) {
	for n := range 12000 {
		s := strconv.Itoa(n)
		want := answer{}
		if n >= 100 && n <= 999 {
			want = answer{api.Message{Status: n, Length: -1}, true}
		}
		hold(t, "Response", of(":status", s), response(":status", s), want)
		for _, s := range []string{"0" + s, "00" + s, "-" + s, "+" + s, s + " ", " " + s} {
			hold(t, "Response", of(":status", s), response(":status", s), answer{})
		}
	}
	// No byte but a digit, at each of the three places.
	for b := range 256 {
		for i := range 3 {
			s := []byte("222")
			s[i] = byte(b)
			want := answer{}
			if b >= '1' && b <= '9' || b == '0' && i > 0 {
				want = answer{api.Message{Status: plainNumber(string(s)), Length: -1}, true}
			}
			hold(t, "Response", of(":status", string(s)), response(":status", string(s)), want)
		}
	}
}

func TestResponseOfPseudoFieldsThatMayNotBe(t *testing.T) {
	for _, l := range [][]api.Field{
		nil,
		{},
		of("a", "b"),
		of("status", "200"),
		of(":status", ""),
		of(":status", "2"),
		of(":status", "20"),
		of(":status", "2000"),
		of(":status", "０２０"),
		of(":status", "٢٠٠"),
		of(":status", "200", ":status", "200"),
		of(":status", "200", ":status", "404"),
		of(":status", "200", "a", "b", ":status", "200"),
		of("a", "b", ":status", "200"),
		of(":status", "200", ":path", "/"),
		of(":path", "/", ":status", "200"),
		of(":method", "GET", ":scheme", "http", ":path", "/"),
		of(":method", "CONNECT", ":authority", "x"),
	} {
		hold(t, "Response", l, told(fields.Response(l)), answer{})
	}
}

func TestTrailers(t *testing.T) {
	for _, l := range [][]api.Field{nil, {}, of("a", "b"), of("grpc-status", "0", "grpc-message", ""), of("a", "1", "a", "2"), of("te", "trailers"), of("content-length", "3")} {
		hold(t, "Trailers", l, answer{ok: fields.Trailers(l)}, answer{ok: true})
	}
	for _, name := range []string{":method", ":scheme", ":authority", ":path", ":status", ":", ":a"} {
		for _, l := range [][]api.Field{of(name, "200"), of(name, "/", "a", "b"), of("a", "b", name, "GET")} {
			hold(t, "Trailers", l, answer{ok: fields.Trailers(l)}, answer{})
		}
	}
}

// A pseudo field that is not one of the kind's may not be, nor any behind
// another field.
func TestPseudoFieldsThatMayNotBe(t *testing.T) {
	for _, name := range []string{":", "::", "::method", ":Method", ":METHOD", ":method ", ":path2", ":pat", ":statu", ":status:", ":host", ":protocol", ":\x00", ":a"} {
		holdKinds(t, false, name, "/")
		for _, k := range kinds {
			l := append(of(name, "/"), k.right...)
			hold(t, k.name, l, k.call(l), answer{})
		}
	}
	for i, name := range []string{":method", ":scheme", ":authority", ":path", ":status"} {
		for _, k := range kinds {
			l := with(k.right, "a", "b", name, []string{"GET", "http", "h", "/", "200"}[i])
			hold(t, k.name, l, k.call(l), answer{})
		}
	}
	// With nothing else wrong.
	for _, l := range [][]api.Field{
		of(":method", "GET", ":scheme", "http", "a", "b", ":path", "/"),
		of("a", "b", ":method", "GET", ":scheme", "http", ":path", "/"),
		of(":method", "GET", ":scheme", "http", ":path", "/", "a", "b", ":authority", "h"),
		of(":method", "CONNECT", "te", "trailers", ":authority", "h"),
	} {
		hold(t, "Request", l, told(fields.Request(l)), answer{})
	}
}

// Each byte stands alone, and at each place of a name.
func TestNames(t *testing.T) {
	for b := range 256 {
		in := string([]byte{byte(b)})
		right := b >= 33 && b <= 126 && !(b >= 'A' && b <= 'Z') && b != ':'
		for _, name := range []string{in, in + "a", "a" + in, "a" + in + "a", "aaaaaaaa" + in, in + in} {
			holdKinds(t, right, name, "v")
			holdKinds(t, right, name, "")
		}
	}
	holdKinds(t, false, "", "")
	holdKinds(t, false, "", "v")
	for _, name := range []string{"Host", "hosT", "a b", "a\tb", "a:b", "a:", "é", "ａ", "a\u00a0", "\xff", "Content-Length", "TE"} {
		holdKinds(t, false, name, "5")
	}
	holdKinds(t, true, inNames, "v")
	holdKinds(t, true, strings.Repeat("a", 70000), "v")
	holdKinds(t, false, strings.Repeat("a", 70000)+"A", "v")
}

// Each byte stands alone, and at each place of a value.
func TestValues(t *testing.T) {
	for b := range 256 {
		in := string([]byte{byte(b)})
		inside := b != 0 && b != 10 && b != 13
		outside := inside && b != 32 && b != 9
		for _, value := range []string{in, in + "v", "v" + in, in + in, "vvvvvvvvvvvv" + in, in + "vvvvvvvvvvvv"} {
			holdKinds(t, outside, "a", value)
		}
		for _, value := range []string{"v" + in + "v", "v" + in + in + "v", "vvvvvvvvvvvv" + in + "vvvvvvvvvvvv"} {
			holdKinds(t, inside, "a", value)
		}
		// Of pseudo fields likewise.
		want := answer{}
		if inside {
			want = answer{api.Message{Method: "G" + in + "T", Scheme: "h" + in + "p", Authority: "x" + in + "y", Path: "/" + in + "p", Length: -1}, true}
		}
		hold(t, "Request", nil, request(":method", "G"+in+"T", ":scheme", "h"+in+"p", ":authority", "x"+in+"y", ":path", "/"+in+"p"), want)
	}
	holdKinds(t, true, "a", "")
	for _, value := range []string{"\x01", "\x7f", "\x80", "\xff\xfe", "é", "a b", "a\tb", "\u00a0", "\x0b", "\x0c", "\u2028", ":", "A"} {
		holdKinds(t, true, "a", value)
	}
	for _, value := range []string{" ", "\t", "  ", "\t \t", " v", "v ", "\tv", "v\t", " v ", "v\n", "\nv", "v\r\n v", "v\x00v"} {
		holdKinds(t, false, "a", value)
	}
	for _, blank := range []string{" ", "\t"} {
		for _, l := range [][]api.Field{
			of(":method", blank+"GET", ":scheme", "http", ":path", "/"),
			of(":method", "GET", ":scheme", "http"+blank, ":path", "/"),
			of(":method", "GET", ":scheme", "http", ":path", "/"+blank),
			of(":method", "GET", ":scheme", "http", ":path", "/", ":authority", blank),
			of(":method", "CONNECT"+blank, ":authority", "x"),
		} {
			hold(t, "Request", l, told(fields.Request(l)), answer{})
		}
	}
	// The last of many counts as much as the first.
	for _, k := range kinds {
		l := with(k.right)
		for range 1000 {
			l = append(l, api.Field{Name: "a", Value: "v"})
		}
		if got := k.call(l); !got.ok {
			t.Errorf("%s of 1000 fields: %+v", k.name, got)
		}
		l = append(l, api.Field{Name: "a", Value: "v "})
		hold(t, k.name, l[1000:], k.call(l), answer{})
	}
}

func TestFieldsOfTheConnection(t *testing.T) {
	for _, name := range []string{"connection", "proxy-connection", "keep-alive", "transfer-encoding", "upgrade"} {
		for _, value := range []string{"close", "", "trailers", "chunked", "keep-alive", "h2c", "0"} {
			holdKinds(t, false, name, value)
			holdKinds(t, false, "a", "b", name, value)
			holdKinds(t, false, name, value, "a", "b")
		}
		// Those whose names are like theirs are none of them.
		for _, other := range []string{name + "s", name + "-", "x-" + name, name[1:], name[:len(name)-1], name + "." + name} {
			holdKinds(t, true, other, "close")
		}
	}
	holdKinds(t, true, "te", "trailers")
	holdKinds(t, true, "te", "trailers", "te", "trailers")
	for _, value := range []string{"", "gzip", "Trailers", "TRAILERS", "trailer", "trailerss", "trailers,", "trailers, gzip", "trailers;q=1", "0"} {
		holdKinds(t, false, "te", value)
		holdKinds(t, false, "te", "trailers", "te", value)
		holdKinds(t, false, "te", value, "te", "trailers")
		holdKinds(t, true, "tea", value)
		holdKinds(t, true, "t", value)
		holdKinds(t, true, "x-te", value)
	}
	for _, name := range []string{"via", "forwarded", "x-hop-a", "host", "cookie", "trailer", "date", "upgrade-insecure-requests"} {
		holdKinds(t, true, name, "x")
	}
}

// holdLength asks requests and responses for a length, and trailers whether
// they may be.
func holdLength(t *testing.T, want int, values ...string) {
	t.Helper()
	var l []string
	for _, v := range values {
		l = append(l, "content-length", v, "a", "b")
	}
	holdKinds(t, true, l...)
	for _, k := range kinds[:2] {
		if got := k.call(with(k.right, l...)); got.m.Length != want {
			t.Errorf("%s with lengths of %q: %+v", k.name, values, got)
		}
	}
}

func TestContentLength(t *testing.T) {
	holdLength(t, -1)
	for _, c := range []struct {
		value string
		want  int
	}{
		{"0", 0}, {"5", 5}, {"9", 9}, {"10", 10}, {"05", 5}, {"00", 0}, {"0000", 0}, {"123", 123},
		{"2147483648", 1 << 31}, {"4294967296", 1 << 32}, {"999999999999999", 999999999999999},
		{"100000000000000", 100000000000000}, {"000000000000005", 5}, {"000000000000000", 0}, {"00000000000000", 0},
	} {
		holdLength(t, c.want, c.value)
		holdLength(t, c.want, c.value, c.value)
		holdLength(t, c.want, c.value, c.value, c.value)
		holdKinds(t, false, "content-length", c.value, "content-length", c.value+"1")
		holdKinds(t, false, "content-length", "1"+c.value, "content-length", c.value)
		holdKinds(t, false, "content-length", c.value, "a", "b", "content-length", c.value, "content-length", "7")
		holdKinds(t, false, "content-length", "7", "content-length", c.value, "content-length", c.value)
		holdKinds(t, false, "content-length", c.value, "content-length", "7", "content-length", c.value)
		// Another one with the same number is another value.
		holdKinds(t, false, "content-length", c.value, "content-length", "0"+c.value)
	}
	for _, value := range []string{
		"", "a", "-1", "+1", "-", "+", "1.0", "1e3", "0x5", "1_0", "5 6", "5,5", "5, 5", "5;", "１", "٥", "\x80", "5\x7f",
		"0000000000000005", "1000000000000000", "0000000000000000", "9223372036854775807", "99999999999999999999", strings.Repeat("0", 4096),
	} {
		holdKinds(t, false, "content-length", value)
		holdKinds(t, false, "content-length", value, "content-length", value)
		holdKinds(t, false, "content-length", "5", "content-length", value)
		holdKinds(t, false, "content-length", value, "content-length", "5")
		for _, like := range []string{"content-lengths", "content-lengt", "x-content-length", "length"} {
			holdKinds(t, true, like, value, like, "5")
		}
	}
	// No byte but a digit, at each of the fifteen places.
	for b := range 256 {
		for i := range 15 {
			s := []byte("111111111111111")
			s[i] = byte(b)
			if b >= '0' && b <= '9' {
				holdLength(t, plainNumber(string(s)), string(s))
			} else {
				holdKinds(t, false, "content-length", string(s))
			}
		}
	}
	for n := range 40 {
		if s := strings.Repeat("1", n); n >= 1 && n <= 15 {
			holdLength(t, plainNumber(s), s)
		} else {
			holdKinds(t, false, "content-length", s)
		}
	}
}

// Never does not matter to whether fields may be.
func TestNeverDoesNotMatter(t *testing.T) {
	for _, k := range kinds {
		for _, l := range [][]api.Field{with(k.right, "a", "b", "content-length", "5", "content-length", "5"), with(k.right, "te", "gzip")} {
			want := k.call(l)
			for i := range l {
				l[i].Never = true
				hold(t, k.name, l, k.call(l), want)
			}
		}
	}
}

func TestSize(t *testing.T) {
	for _, c := range []struct {
		l    []api.Field
		want int
	}{
		{nil, 0},
		{[]api.Field{}, 0},
		{of("", ""), 32},
		{of("a", ""), 33},
		{of("", "a"), 33},
		{of("a", "bc"), 35},
		{of("a", "bc", "a", "bc"), 70},
		{of(":method", "GET", ":scheme", "http", ":path", "/"), 123},
		// Bytes, not letters; fields that may not be count like any.
		{of("é", "\xff\x00 "), 37},
		{of("Connection", "\n"), 43},
		{of("te", "trailers", "x-hop-a", "1"), 82},
		{[]api.Field{{Name: "a", Value: "b", Never: true}}, 34},
		{of("a", strings.Repeat("v", 1_000_000)), 1_000_033},
		{make([]api.Field, 1_000_000), 32_000_000},
	} {
		if got := fields.Size(c.l); got != c.want {
			t.Errorf("Size of %d fields: %d; want %d", len(c.l), got, c.want)
		}
	}
}

func TestForward(t *testing.T) {
	for _, c := range []struct{ l, want []api.Field }{
		{nil, nil},
		{[]api.Field{}, nil},
		{of("te", "trailers"), nil},
		{of("te", "gzip", "via", "", "forwarded", "for=x", "x-hop-", "", "x-hop-a", "1", "x-hop-x-hop-", "2"), nil},
		{of("a", "1", "te", "trailers", "b", "2", "via", "x", "a", "3", "forwarded", "y", "x-hop-z", "4", "c", "5"), of("a", "1", "b", "2", "a", "3", "c", "5")},
		// Those whose names are like theirs go on.
		{of("t", "", "tea", "", "te-", "", "x-te", "", "vi", "", "viaa", "", "x-via", "", "forward", "", "forwardedd", "", "x-forwarded", "", "x-forwarded-for", ""), of("t", "", "tea", "", "te-", "", "x-te", "", "vi", "", "viaa", "", "x-via", "", "forward", "", "forwardedd", "", "x-forwarded", "", "x-forwarded-for", "")},
		{of("x-hop", "", "x-ho", "", "x-hopp-a", "", "xx-hop-a", "", "x-hip-a", "", "", ""), of("x-hop", "", "x-ho", "", "x-hopp-a", "", "xx-hop-a", "", "x-hip-a", "", "", "")},
		// Values count as nothing, and so do other fields' names.
		{of("a", "te", "b", "via", "c", "x-hop-a", ":te", "d"), of("a", "te", "b", "via", "c", "x-hop-a", ":te", "d")},
		{of("TE", "", "Via", "", "FORWARDED", "", "X-Hop-A", "", "x-Hop-a", ""), of("TE", "", "Via", "", "FORWARDED", "", "X-Hop-A", "", "x-Hop-a", "")},
		// Nor does it matter whether they may be.
		{of("connection", "close", "\x00", "\n", "te", "x", ":path", ""), of("connection", "close", "\x00", "\n", ":path", "")},
		{
			[]api.Field{{Name: "a", Value: "1", Never: true}, {Name: "te", Never: true}, {Name: "a", Value: "1"}},
			[]api.Field{{Name: "a", Value: "1", Never: true}, {Name: "a", Value: "1"}},
		},
	} {
		if got := fields.Forward(c.l); !slices.Equal(got, c.want) {
			t.Errorf("Forward of %s: %s", show(c.l), show(got))
		}
	}
}

// What a call is handed stays as it was, and is not kept; what it answers is
// the caller's (R1).
func TestListsAreNotShared(t *testing.T) {
	for _, l := range [][]api.Field{
		of("a", "1", "b", "2", "c", "3"),
		of("te", "trailers", "a", "1", "via", "x", "b", "2", "x-hop-a", "y"),
		of(":status", "200", "content-length", "5", "content-length", "5", "connection", "close"),
	} {
		// Room behind the list is its owner's too.
		owned := slices.Clone(with(l, "behind", "1", "behind", "2"))
		handed := owned[:len(l)]
		was := slices.Clone(owned)
		fields.Request(handed)
		fields.Response(handed)
		fields.Trailers(handed)
		fields.Size(handed)
		got := fields.Forward(handed)
		if !slices.Equal(owned, was) {
			t.Errorf("%s is %s now", show(was), show(owned))
		}
		want := plainForward(l)
		for i := range owned {
			owned[i] = api.Field{Name: "written", Value: "over"}
		}
		if !slices.Equal(got, want) {
			t.Errorf("Forward of %s was %s, is %s now", show(l), show(want), show(got))
		}
		copy(owned, was)
		other := fields.Forward(handed)
		_ = append(got, api.Field{Name: "z"})
		for i := range got {
			got[i] = api.Field{Name: "written", Value: "over"}
		}
		if !slices.Equal(owned, was) || !slices.Equal(other, want) || !slices.Equal(fields.Forward(handed), want) {
			t.Errorf("%s is %s now, forwarded %s", show(was), show(owned), show(other))
		}
	}
}

package fields_test

import (
	"fmt"
	"strings"

	"flume/api"
	"flume/fields"
)

// of makes fields of names and values, one behind the other.
func of(l ...string) []api.Field {
	var out []api.Field
	for i := 0; i < len(l); i += 2 {
		out = append(out, api.Field{Name: l[i], Value: l[i+1]})
	}
	return out
}

// with is l and what stands behind it, in memory of its own.
func with(l []api.Field, behind ...string) []api.Field {
	return append(append([]api.Field{}, l...), of(behind...)...)
}

// show is fields as a text to be read, whatever bytes they have.
func show(l []api.Field) string {
	var out strings.Builder
	for _, f := range l {
		fmt.Fprintf(&out, "{%q %q %t}", f.Name, f.Value, f.Never)
	}
	return "[" + out.String() + "]"
}

// answer is what a call tells of fields.
type answer struct {
	m  api.Message
	ok bool
}

func told(m api.Message, ok bool) answer {
	return answer{m, ok}
}

// kind is a kind of messages: the call, and what the chapter's words say.
type kind struct {
	name  string
	call  func([]api.Field) answer
	plain func([]api.Field) answer
	// right is something that may be one, behind which any right field may be.
	right []api.Field
}

var kinds = []kind{
	{"Request", func(l []api.Field) answer { return told(fields.Request(l)) }, plainRequest, of(":method", "GET", ":scheme", "http", ":path", "/")},
	{"Response", func(l []api.Field) answer { return told(fields.Response(l)) }, plainResponse, of(":status", "200")},
	{"Trailers", func(l []api.Field) answer { return answer{ok: fields.Trailers(l)} }, plainTrailers, nil},
}

// valuesOf are the values of all fields of a name.
func valuesOf(l []api.Field, name string) []string {
	var out []string
	for _, f := range l {
		if f.Name == name {
			out = append(out, f.Value)
		}
	}
	return out
}

func isOneOf(s string, all ...string) bool {
	for _, x := range all {
		if s == x {
			return true
		}
	}
	return false
}

// hasJust tells whether all bytes of a text are some of these.
func hasJust(s, some string) bool {
	for len(s) > 0 {
		if !strings.Contains(some, s[:1]) {
			return false
		}
		s = s[1:]
	}
	return true
}

const (
	digits = "0123456789"
	// inNames is all that may be in a name, in the order of its bytes.
	inNames = "!\"#$%&'()*+,-./" + digits + ";<=>?@[\\]^_`abcdefghijklmnopqrstuvwxyz{|}~"
)

// plainValue tells whether a value is right.
func plainValue(s string) bool {
	for _, bad := range []string{"\x00", "\x0a", "\x0d"} {
		if strings.Contains(s, bad) {
			return false
		}
	}
	for _, blank := range []string{"\x20", "\x09"} {
		if strings.HasPrefix(s, blank) || strings.HasSuffix(s, blank) {
			return false
		}
	}
	return true
}

// plainCommon tells whether fields keep what is said of all kinds, where the
// pseudo fields of a kind are these.
func plainCommon(l []api.Field, pseudo ...string) bool {
	for i, f := range l {
		isPseudo := strings.HasPrefix(f.Name, ":")
		switch {
		case !plainValue(f.Value):
			return false
		case isPseudo && !isOneOf(f.Name, pseudo...):
			return false
		case isPseudo && i > 0 && !strings.HasPrefix(l[i-1].Name, ":"):
			return false
		case !isPseudo && (f.Name == "" || !hasJust(f.Name, inNames)):
			return false
		case isOneOf(f.Name, "connection", "proxy-connection", "keep-alive", "transfer-encoding", "upgrade"):
			return false
		case f.Name == "te" && f.Value != "trailers":
			return false
		}
	}
	for _, name := range pseudo {
		if len(valuesOf(l, name)) > 1 {
			return false
		}
	}
	lengths := valuesOf(l, "content-length")
	for _, s := range lengths {
		if s != lengths[0] || s == "" || len(s) > 15 || !hasJust(s, digits) {
			return false
		}
	}
	return true
}

// plainNumber is a number of digits.
func plainNumber(s string) int {
	n := 0
	for _, d := range s {
		n = 10*n + strings.Index(digits, string(d))
	}
	return n
}

// plainLength is the length that fields tell.
func plainLength(l []api.Field) int {
	if all := valuesOf(l, "content-length"); len(all) > 0 {
		return plainNumber(all[0])
	}
	return -1
}

// plainRequest is Request by the words of the chapter.
func plainRequest(l []api.Field) answer {
	if !plainCommon(l, ":method", ":scheme", ":authority", ":path") {
		return answer{}
	}
	methods, schemes, authorities, paths := valuesOf(l, ":method"), valuesOf(l, ":scheme"), valuesOf(l, ":authority"), valuesOf(l, ":path")
	if len(methods) == 0 || methods[0] == "" {
		return answer{}
	}
	m := api.Message{Method: methods[0], Length: plainLength(l)}
	if len(authorities) > 0 {
		m.Authority = authorities[0]
	}
	if m.Method == "CONNECT" {
		if m.Authority == "" || len(schemes) > 0 || len(paths) > 0 {
			return answer{}
		}
		return answer{m, true}
	}
	if len(schemes) == 0 || schemes[0] == "" || len(paths) == 0 {
		return answer{}
	}
	if all := paths[0] == "*" && m.Method == "OPTIONS"; !all && !strings.HasPrefix(paths[0], "/") {
		return answer{}
	}
	m.Scheme, m.Path = schemes[0], paths[0]
	return answer{m, true}
}

// plainResponse is Response by the words of the chapter.
func plainResponse(l []api.Field) answer {
	all := valuesOf(l, ":status")
	if !plainCommon(l, ":status") || len(all) == 0 {
		return answer{}
	}
	s := all[0]
	if len(s) != 3 || !hasJust(s, digits) || plainNumber(s) < 100 {
		return answer{}
	}
	return answer{api.Message{Status: plainNumber(s), Length: plainLength(l)}, true}
}

// plainTrailers is Trailers by the words of the chapter.
func plainTrailers(l []api.Field) answer {
	return answer{ok: plainCommon(l)}
}

// plainForward is Forward by the words of the chapter.
func plainForward(l []api.Field) []api.Field {
	var out []api.Field
	for _, f := range l {
		named := isOneOf(f.Name, "te", "via", "forwarded")
		begins := len(f.Name) >= 6 && f.Name[:6] == "x-hop-"
		if !named && !begins {
			out = append(out, f)
		}
	}
	return out
}

// plainSize is Size by the words of the chapter.
func plainSize(l []api.Field) int {
	all := ""
	for _, f := range l {
		all += f.Name + f.Value + strings.Repeat(" ", 32)
	}
	return len(all)
}

package fields

import (
	"slices"
	"strconv"
	"strings"

	"flume/api"
)

// The names of the fields that say what is known of a message.
const (
	method        = ":method"
	scheme        = ":scheme"
	authority     = ":authority"
	path          = ":path"
	status        = ":status"
	contentLength = "content-length"
)

// noLength is the length of a message that does not tell it.
const noLength = -1

// notRight is given up by what finds fields that may not be a message's: the
// depth at which they are found need not matter to what lies between.
type notRight struct{}

func mustBe(right bool) {
	if !right {
		panic(notRight{})
	}
}

// isNothing tells whether nothing was given up.
func isNothing(cause any) bool {
	switch cause.(type) {
	case nil:
		return true
	default: // notRight
		return false
	}
}

// seen are those fields of a message that say what is known of it, by their
// names.
type seen map[string]api.Field

// look goes through the fields of a message that may have these pseudo fields.
// Behind the first other field, a pseudo one is held to be another one too:
// that gives it up, for its name is no right one.
func look(l []api.Field, pseudo ...string) seen {
	s := seen{}
	ahead := true
	for _, f := range l {
		mustBe(isValue(f.Value))
		ahead = ahead && isPseudo(f)
		if ahead {
			s.addPseudo(f, pseudo...)
		} else {
			s.addOther(f)
		}
	}
	return s
}

// addPseudo sees a pseudo field, that is to have one of these names, each once.
func (s seen) addPseudo(f api.Field, names ...string) {
	mustBe(slices.Contains(names, f.Name) && !s.has(f.Name))
	s[f.Name] = f
}

// addOther sees any other field.
func (s seen) addOther(f api.Field) {
	mustBe(isName(f.Name) && !isOfConnection(f))
	if f.Name == contentLength {
		s.addLength(f)
	}
}

// addLength sees a content-length. Several may be, if all say the same.
func (s seen) addLength(f api.Field) {
	mustBe(isLength(f.Value))
	mustBe(!s.has(contentLength) || s[contentLength].Value == f.Value)
	s[contentLength] = f
}

func (s seen) has(name string) bool {
	_, ok := s[name]
	return ok
}

// says tells whether a field is there, and is not empty.
func (s seen) says(name string) bool {
	return s[name].Value != ""
}

// mustBeRequest gives up what is no request's head.
func (s seen) mustBeRequest() {
	mustBe(s.says(method))
	if s[method].Value == "CONNECT" {
		mustBe(s.says(authority) && !s.has(scheme) && !s.has(path))
		return
	}
	mustBe(s.says(scheme) && s.hasRightPath())
}

// hasRightPath tells whether the path may be one of a request that is no
// CONNECT. Only OPTIONS may ask for all paths at once.
func (s seen) hasRightPath() bool {
	asked := s[path].Value
	return strings.HasPrefix(asked, "/") || asked == "*" && s[method].Value == "OPTIONS"
}

// mustBeResponse gives up what is no response's head.
func (s seen) mustBeResponse() {
	mustBe(isStatus(s[status].Value))
}

// message is what was seen.
func (s seen) message() api.Message {
	return api.Message{
		Method:    s[method].Value,
		Scheme:    s[scheme].Value,
		Authority: s[authority].Value,
		Path:      s[path].Value,
		Status:    s.number(status, 0),
		Length:    s.number(contentLength, noLength),
	}
}

// number is what a field of digits says, and none if it is not there. There are
// too few digits for a number that is none.
func (s seen) number(name string, none int) int {
	if !s.has(name) {
		return none
	}
	n, _ := strconv.Atoi(s[name].Value)
	return n
}

package fields

import (
	"strings"

	"flume/api"
)

const (
	te       = "te"
	trailers = "trailers"

	mostLengthDigits = 15
	statusDigits     = 3
)

func isPseudo(f api.Field) bool {
	return strings.HasPrefix(f.Name, ":")
}

// isName tells whether a name is right for a field that is no pseudo field.
func isName(s string) bool {
	for i := range len(s) {
		if !isNameByte(s[i]) {
			return false
		}
	}
	return s != ""
}

// isNameByte tells whether a byte may be in a name: capitals may not, as names
// are held against each other byte by byte.
func isNameByte(b byte) bool {
	isVisible := b >= '!' && b <= '~'
	isCapital := b >= 'A' && b <= 'Z'
	return isVisible && !isCapital && b != ':'
}

// isValue tells whether a value is right.
func isValue(s string) bool {
	for i := range len(s) {
		if b := s[i]; b == 0 || b == '\n' || b == '\r' {
			return false
		}
	}
	return s == "" || !isBlank(s[0]) && !isBlank(s[len(s)-1])
}

func isBlank(b byte) bool {
	return b == ' ' || b == '\t'
}

// isOfConnection tells whether a field speaks of the connection: of that,
// frames speak here.
func isOfConnection(f api.Field) bool {
	switch f.Name {
	case "connection", "proxy-connection", "keep-alive", "transfer-encoding", "upgrade":
		return true
	case te:
		return f.Value != trailers
	default:
		return false
	}
}

// isLength tells whether a text may be the value of a content-length.
func isLength(s string) bool {
	return s != "" && len(s) <= mostLengthDigits && areDigits(s)
}

// isStatus tells whether a text may be the value of a status.
func isStatus(s string) bool {
	return len(s) == statusDigits && areDigits(s) && s[0] != '0'
}

func areDigits(s string) bool {
	for i := range len(s) {
		if s[i] < '0' || s[i] > '9' {
			return false
		}
	}
	return true
}

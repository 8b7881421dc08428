package table

import "flume/api"

// firstEntry is the index of the newest entry: the static table's fields
// have those below it, from 1 on.
const firstEntry = 62

// Static is a field of the static table (D1).
func Static(i int) (api.Field, bool) {
	if i < 1 || i >= firstEntry {
		return api.Field{}, false
	}
	static := staticFields()
	return static[i], true
}

// staticFields is the static table; its place 0 is no field's, so that the
// places are the numbers that the fields have.
func staticFields() [firstEntry]api.Field {
	return [firstEntry]api.Field{
		1: {Name: ":authority"},
		2: {Name: ":method", Value: "GET"}, 3: {Name: ":method", Value: "POST"},
		4: {Name: ":path", Value: "/"}, 5: {Name: ":path", Value: "/index.html"},
		6: {Name: ":scheme", Value: "http"}, 7: {Name: ":scheme", Value: "https"},
		8: {Name: ":status", Value: "200"}, 9: {Name: ":status", Value: "204"},
		10: {Name: ":status", Value: "206"}, 11: {Name: ":status", Value: "304"},
		12: {Name: ":status", Value: "400"}, 13: {Name: ":status", Value: "404"},
		14: {Name: ":status", Value: "500"},
		15: {Name: "accept-charset"}, 16: {Name: "accept-encoding", Value: "gzip, deflate"},
		17: {Name: "accept-language"}, 18: {Name: "accept-ranges"},
		19: {Name: "accept"}, 20: {Name: "access-control-allow-origin"},
		21: {Name: "age"}, 22: {Name: "allow"},
		23: {Name: "authorization"}, 24: {Name: "cache-control"},
		25: {Name: "content-disposition"}, 26: {Name: "content-encoding"},
		27: {Name: "content-language"}, 28: {Name: "content-length"},
		29: {Name: "content-location"}, 30: {Name: "content-range"},
		31: {Name: "content-type"}, 32: {Name: "cookie"},
		33: {Name: "date"}, 34: {Name: "etag"},
		35: {Name: "expect"}, 36: {Name: "expires"},
		37: {Name: "from"}, 38: {Name: "host"},
		39: {Name: "if-match"}, 40: {Name: "if-modified-since"},
		41: {Name: "if-none-match"}, 42: {Name: "if-range"},
		43: {Name: "if-unmodified-since"}, 44: {Name: "last-modified"},
		45: {Name: "link"}, 46: {Name: "location"},
		47: {Name: "max-forwards"}, 48: {Name: "proxy-authenticate"},
		49: {Name: "proxy-authorization"}, 50: {Name: "range"},
		51: {Name: "referer"}, 52: {Name: "refresh"},
		53: {Name: "retry-after"}, 54: {Name: "server"},
		55: {Name: "set-cookie"}, 56: {Name: "strict-transport-security"},
		57: {Name: "transfer-encoding"}, 58: {Name: "user-agent"},
		59: {Name: "vary"}, 60: {Name: "via"},
		61: {Name: "www-authenticate"},
	}
}

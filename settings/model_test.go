package settings_test

import (
	"flume/api"
	"flume/settings"
)

// row is a row of the chapter's table: the place of a setting in the values,
// as a number, and from where to where it may be.
type row struct {
	place       func(*api.Values) *int
	least, most uint32
	code        api.Code
}

const highest = 1<<32 - 1

// rows are those of the chapter, but for EnablePush, which is no number.
var rows = map[int]row{
	1: {func(v *api.Values) *int { return &v.Table }, 0, highest, 0},
	3: {func(v *api.Values) *int { return &v.Streams }, 0, highest, 0},
	4: {func(v *api.Values) *int { return &v.Window }, 0, 1<<31 - 1, 3},
	5: {func(v *api.Values) *int { return &v.Frame }, 16384, 1<<24 - 1, 1},
	6: {func(v *api.Values) *int { return &v.List }, 0, highest, 0},
}

// answer is what Apply and All answer.
type answer struct {
	v     api.Values
	fault api.Fault
}

// told makes an answer of a call's results.
func told(v api.Values, f api.Fault) answer {
	return answer{v, f}
}

// refused is v, and a fault of the connection's.
func refused(v api.Values, code api.Code) answer {
	return answer{v, api.Fault{Is: true, Code: code, Stream: 0}}
}

// plainApply is Apply by the words of the chapter.
func plainApply(v api.Values, s api.Setting, server bool) answer {
	if s.ID == 2 {
		if s.Value > 1 || s.Value == 1 && server {
			return refused(v, 1)
		}
		v.Push = s.Value == 1
		return answer{v: v}
	}
	r, known := rows[s.ID]
	if !known {
		return answer{v: v}
	}
	if s.Value < r.least || s.Value > r.most {
		return refused(v, r.code)
	}
	*r.place(&v) = int(s.Value)
	return answer{v: v}
}

// plainAll is All by the words of the chapter: the list behind its first
// setting is applied to what that one makes.
func plainAll(v api.Values, l []api.Setting, server bool) answer {
	if len(l) == 0 {
		return answer{v: v}
	}
	first := plainApply(v, l[0], server)
	if first.fault.Is {
		return first
	}
	rest := plainAll(first.v, l[1:], server)
	if rest.fault.Is {
		rest.v = v
	}
	return rest
}

// plainTell is Tell by the words of the chapter.
func plainTell(was, is api.Values) []api.Setting {
	var l []api.Setting
	for id := 1; id <= 6; id++ {
		switch {
		case id == 2 && !was.Push && is.Push:
			l = append(l, api.Setting{ID: 2, Value: 1})
		case id == 2 && was.Push && !is.Push:
			l = append(l, api.Setting{ID: 2, Value: 0})
		case id != 2:
			before, now := *rows[id].place(&was), *rows[id].place(&is)
			if before != now && now >= 0 && now <= highest {
				l = append(l, api.Setting{ID: id, Value: uint32(now)})
			}
		}
	}
	return l
}

// changed is Default with one thing other.
func changed(change func(*api.Values)) api.Values {
	v := settings.Default()
	change(&v)
	return v
}

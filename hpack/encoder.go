package hpack

import (
	"flume/api"
	"flume/hints"
	"flume/table"
)

// Encoder writes blocks (E1).
type Encoder struct {
	end
	// changed tells that SetMax was called behind the last block; least and
	// last are of these calls.
	changed bool
	least   int
	last    int
}

// NewEncoder is one with a table (E1).
func NewEncoder(max int) *Encoder {
	return &Encoder{end: end{known: table.New(max)}}
}

// SetMax is what the table may have from the next block on (E1).
func (c *Encoder) SetMax(n int) {
	c.last = countedMax(n)
	if !c.changed || c.last < c.least {
		c.least = c.last
	}
	c.changed = true
}

// Encode is the block of fields (E1).
func (c *Encoder) Encode(l []api.Field) []byte {
	b := c.updates()
	for _, f := range l {
		b = append(b, c.field(f)...)
	}
	return b
}

// updates is the updates with which the next block begins. The decoder is
// told the least Max as well, for that let entries go.
func (c *Encoder) updates() []byte {
	if !c.changed {
		return nil
	}
	c.changed = false
	var b []byte
	if c.least < c.last {
		b = c.update(c.least)
	}
	return append(b, c.update(c.last)...)
}

func (c *Encoder) update(n int) []byte {
	c.known.SetMax(n)
	return number(update, n)
}

// field is a field's octets; the first kind that applies is its.
func (c *Encoder) field(f api.Field) []byte {
	index, whole := c.known.Find(f)
	switch {
	case f.Never:
		return written(never, index, f)
	case whole:
		return number(indexed, index)
	case table.Size(f) > c.known.Max():
		return written(plain, index, f)
	default:
		c.known.Add(f)
		return written(added, index, f)
	}
}

// written is a field with its value, and with its name if no index tells it.
func written(k kind, index int, f api.Field) []byte {
	b := number(k, index)
	if index == 0 {
		b = append(b, hints.PutText(f.Name)...)
	}
	return append(b, hints.PutText(f.Value)...)
}

// number can't fail: neither an index nor a Max is too great for one.
func number(k kind, n int) []byte {
	b, _ := hints.PutInt(byte(k), k.prefix(), n)
	return b
}

package hpack

import (
	"flume/api"
	"flume/hints"
	"flume/table"
)

// Decoder reads blocks (E2).
type Decoder struct {
	end
	limit  int
	list   int
	broken bool
}

// NewDecoder is one with a table (E2).
func NewDecoder(max, list int) *Decoder {
	known := table.New(max)
	return &Decoder{end: end{known: known}, limit: known.Max(), list: list}
}

// SetMax is what an update may say (E2). The table stays: it is the encoder
// that has to say when it goes down.
func (d *Decoder) SetMax(n int) {
	d.limit = countedMax(n)
}

// Decode is the fields of a block (E2).
func (d *Decoder) Decode(b []byte) ([]api.Field, api.Errno) {
	if d.broken {
		return nil, api.ErrState
	}
	l, ok := d.block(b)
	if !ok {
		// The tables of both ends are no longer the same.
		d.broken = true
		return nil, api.ErrForm
	}
	if sizes(l) > d.list {
		return nil, api.ErrLong
	}
	return l, api.OK
}

func sizes(l []api.Field) int {
	sum := 0
	for _, f := range l {
		sum += table.Size(f)
	}
	return sum
}

// block is the fields of octets, if they are a block.
func (d *Decoder) block(b []byte) ([]api.Field, bool) {
	r := reading{left: b}
	if !d.updates(&r) {
		return nil, false
	}
	var l []api.Field
	for len(r.left) > 0 {
		f, ok := d.field(&r)
		if !ok {
			return nil, false
		}
		l = append(l, f)
	}
	return l, true
}

// updates takes the updates with which a block begins. Whether Max is right
// is asked behind them, though there be none: the encoder had to say when the
// limit went down.
func (d *Decoder) updates(r *reading) bool {
	for len(r.left) > 0 && r.kind() == update {
		n, ok := r.number()
		if !ok || n > d.limit {
			return false
		}
		d.known.SetMax(n)
	}
	return d.known.Max() <= d.limit
}

// field takes a field, and does to the table what it does.
func (d *Decoder) field(r *reading) (api.Field, bool) {
	k := r.kind()
	if k == update {
		return api.Field{}, false
	}
	index, ok := r.number()
	if !ok {
		return api.Field{}, false
	}
	if k == indexed {
		return d.known.At(index)
	}
	f, ok := d.named(r, index)
	if !ok {
		return api.Field{}, false
	}
	f.Never = k == never
	if k == added {
		d.known.Add(f)
	}
	return f, true
}

// named takes a field's value, and its name if no index tells it.
func (d *Decoder) named(r *reading, index int) (api.Field, bool) {
	name, ok := d.name(r, index)
	if !ok {
		return api.Field{}, false
	}
	value, ok := r.text()
	return api.Field{Name: name, Value: value}, ok
}

func (d *Decoder) name(r *reading, index int) (string, bool) {
	if index == 0 {
		return r.text()
	}
	f, ok := d.known.At(index)
	return f.Name, ok
}

// reading is what is left of a block.
type reading struct {
	left []byte
}

// kind is that of what comes next; something has to be left.
func (r *reading) kind() kind {
	return kindOf(r.left[0])
}

// number takes the number of what comes next; something has to be left.
func (r *reading) number() (int, bool) {
	v, n, e := hints.GetInt(r.left, r.kind().prefix())
	r.left = r.left[n:]
	return v, e == api.OK
}

func (r *reading) text() (string, bool) {
	s, n, e := hints.GetText(r.left)
	r.left = r.left[n:]
	return s, e == api.OK
}

package table_test

import (
	"math/rand"
	"strings"
	"testing"

	"flume/api"
	"flume/table"
)

// model is a table by the words of the chapter alone: its entries are told
// anew with each step, the oldest first.
type model struct {
	most    int
	entries []api.Field
}

func (m *model) sum() int {
	sum := 0
	for _, f := range m.entries {
		sum += 32 + len(f.Name+f.Value)
	}
	return sum
}

func (m *model) add(f api.Field) {
	size := 32 + len(f.Name+f.Value)
	for len(m.entries) > 0 && m.sum()+size > m.most {
		m.entries = append([]api.Field{}, m.entries[1:]...)
	}
	if size <= m.most {
		m.entries = append(append([]api.Field{}, m.entries...), field(f.Name, f.Value))
	}
}

func (m *model) setMax(n int) {
	switch {
	case n < 0:
		m.most = 0
	case n > 65536:
		m.most = 65536
	default:
		m.most = n
	}
	for m.sum() > m.most {
		m.entries = append([]api.Field{}, m.entries[1:]...)
	}
}

// newest is the entries, the newest first.
func (m *model) newest() []api.Field {
	var list []api.Field
	for _, f := range m.entries {
		list = append([]api.Field{f}, list...)
	}
	return list
}

func (m *model) find(f api.Field) (int, bool) {
	list := append(static(), m.newest()...)
	for i, has := range list {
		if has.Name == f.Name && has.Value == f.Value {
			return i + 1, true
		}
	}
	for i, has := range list {
		if has.Name == f.Name {
			return i + 1, false
		}
	}
	return 0, false
}

// someField is one of few, so that many are found, and some of the static
// table are among them.
func someField(r *rand.Rand) api.Field {
	f := field([]string{"", "a", "b", ":method", "cookie", "custom-key"}[r.Intn(6)], []string{"", "1", "GET", "custom-value"}[r.Intn(4)])
	if r.Intn(8) == 0 {
		f.Value = strings.Repeat("v", r.Intn(300))
	}
	f.Never = r.Intn(3) == 0
	return f
}

// same tells whether a table and a model say the same of themselves.
func (m *model) same(x *table.Table) bool {
	if x.Len() != len(m.entries) || x.Size() != m.sum() || x.Max() != m.most {
		return false
	}
	for i, want := range m.newest() {
		if f, ok := x.At(62 + i); f != want || !ok {
			return false
		}
	}
	_, more := x.At(62 + len(m.entries))
	return !more
}

func TestTableIsAsThePlainModel(t *testing.T) {
	r := rand.New(rand.NewSource(1))
	for range 200 {
		most := r.Intn(500) - 20
		x, m := table.New(most), &model{}
		m.setMax(most)
		for i := range 100 {
			before, was := x.Clone(), *m
			switch f := someField(r); r.Intn(5) {
			case 0:
				n := r.Intn(500) - 20
				x.SetMax(n)
				m.setMax(n)
			case 1:
				x = before.Clone()
			default:
				x.Add(f)
				m.add(f)
			}
			if !m.same(x) || !was.same(before) {
				t.Fatalf("step %d: Len %d, Size %d, Max %d; want %v, Max %d", i, x.Len(), x.Size(), x.Max(), m.newest(), m.most)
			}
			f := someField(r)
			index, whole := m.find(f)
			finds(t, x, f, index, whole)
		}
	}
}

// The same calls have the same answers: R4.
func TestSameCallsSameAnswers(t *testing.T) {
	told := func() []int {
		r := rand.New(rand.NewSource(2))
		x := table.New(400)
		var out []int
		for range 500 {
			x.Add(someField(r))
			i, _ := x.Find(someField(r))
			out = append(out, i, x.Len(), x.Size())
		}
		return out
	}
	a, b := told(), told()
	for i := range a {
		if a[i] != b[i] {
			t.Fatalf("answer %d: %d and %d", i, a[i], b[i])
		}
	}
}

func FuzzTable(f *testing.F) {
	f.Add(100, "a", "1", 40)
	f.Add(-1, "", "", 65537)
	f.Add(65537, ":method", "GET", -1)
	f.Fuzz(func(t *testing.T, most int, name, value string, next int) {
		x, m := table.New(most), &model{}
		m.setMax(most)
		for _, f := range []api.Field{field(name, value), field(value, name), field(name, "")} {
			x.Add(f)
			m.add(f)
			index, whole := m.find(f)
			finds(t, x, f, index, whole)
			if !m.same(x) {
				t.Fatalf("Add of %q, %q", f.Name, f.Value)
			}
		}
		x.SetMax(next)
		m.setMax(next)
		if !m.same(x) {
			t.Fatalf("SetMax of %d", next)
		}
	})
}

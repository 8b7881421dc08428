package settings_test

import (
	"math"
	"math/rand"
	"slices"
	"testing"

	"flume/api"
	"flume/settings"
)

// others are values of which each is other than that of Default.
var others = api.Values{Table: 1, Push: false, Streams: 2, Window: 3, Frame: 20000, List: 4}

// hold holds an answer against what is asked.
func hold(t *testing.T, call string, args any, got, want answer) {
	t.Helper()
	if got != want {
		t.Errorf("%s of %v: %v; want %v", call, args, got, want)
	}
}

// holdTell holds what is told of two values against what is asked.
func holdTell(t *testing.T, was, is api.Values, want []api.Setting) {
	t.Helper()
	if l := settings.Tell(was, is); !slices.Equal(l, want) {
		t.Errorf("Tell of %v and %v: %v; want %v", was, is, l, want)
	}
}

func TestDefault(t *testing.T) {
	want := api.Values{Table: 4096, Push: true, Streams: -1, Window: 65535, Frame: 16384, List: -1}
	if v := settings.Default(); v != want {
		t.Errorf("Default: %v; want %v", v, want)
	}
}

func TestExamples(t *testing.T) {
	d := settings.Default()
	hold(t, "Apply", "5: 16383", told(settings.Apply(d, api.Setting{ID: 5, Value: 16383}, false)), refused(d, api.ProtocolError))
	is := d
	is.Window = 10
	holdTell(t, d, is, []api.Setting{{ID: 4, Value: 10}})
}

// allowed are settings of both a client and a server, and what each changes.
var allowed = []struct {
	id    int
	value uint32
	want  func(*api.Values)
}{
	{api.HeaderTableSize, 0, func(v *api.Values) { v.Table = 0 }},
	{api.HeaderTableSize, 4096, func(v *api.Values) { v.Table = 4096 }},
	{api.HeaderTableSize, 1<<31 - 1, func(v *api.Values) { v.Table = 1<<31 - 1 }},
	{api.HeaderTableSize, 1 << 31, func(v *api.Values) { v.Table = 1 << 31 }},
	{api.HeaderTableSize, 1<<32 - 1, func(v *api.Values) { v.Table = 1<<32 - 1 }},
	{api.EnablePush, 0, func(v *api.Values) { v.Push = false }},
	{api.MaxConcurrentStreams, 0, func(v *api.Values) { v.Streams = 0 }},
	{api.MaxConcurrentStreams, 100, func(v *api.Values) { v.Streams = 100 }},
	{api.MaxConcurrentStreams, 1 << 31, func(v *api.Values) { v.Streams = 1 << 31 }},
	{api.MaxConcurrentStreams, 1<<32 - 1, func(v *api.Values) { v.Streams = 1<<32 - 1 }},
	{api.InitialWindowSize, 0, func(v *api.Values) { v.Window = 0 }},
	{api.InitialWindowSize, 65536, func(v *api.Values) { v.Window = 65536 }},
	{api.InitialWindowSize, 1<<31 - 2, func(v *api.Values) { v.Window = 1<<31 - 2 }},
	{api.InitialWindowSize, 1<<31 - 1, func(v *api.Values) { v.Window = 1<<31 - 1 }},
	{api.MaxFrameSize, 16384, func(v *api.Values) { v.Frame = 16384 }},
	{api.MaxFrameSize, 16385, func(v *api.Values) { v.Frame = 16385 }},
	{api.MaxFrameSize, 1<<24 - 2, func(v *api.Values) { v.Frame = 1<<24 - 2 }},
	{api.MaxFrameSize, 1<<24 - 1, func(v *api.Values) { v.Frame = 1<<24 - 1 }},
	{api.MaxHeaderListSize, 0, func(v *api.Values) { v.List = 0 }},
	{api.MaxHeaderListSize, 65536, func(v *api.Values) { v.List = 65536 }},
	{api.MaxHeaderListSize, 1 << 31, func(v *api.Values) { v.List = 1 << 31 }},
	{api.MaxHeaderListSize, 1<<32 - 1, func(v *api.Values) { v.List = 1<<32 - 1 }},
}

func TestApply(t *testing.T) {
	for _, c := range allowed {
		s := api.Setting{ID: c.id, Value: c.value}
		for _, v := range []api.Values{settings.Default(), others, {}} {
			want := answer{v: v}
			c.want(&want.v)
			hold(t, "Apply of a client", s, told(settings.Apply(v, s, false)), want)
			hold(t, "Apply of a server", s, told(settings.Apply(v, s, true)), want)
		}
	}
}

// A client alone may ask for pushes; and where it may, no is no.
func TestApplyOfPush(t *testing.T) {
	for _, v := range []api.Values{settings.Default(), others, {}} {
		yes, no := v, v
		yes.Push, no.Push = true, false
		one, zero := api.Setting{ID: api.EnablePush, Value: 1}, api.Setting{ID: api.EnablePush, Value: 0}
		hold(t, "Apply of a client", one, told(settings.Apply(v, one, false)), answer{v: yes})
		hold(t, "Apply of a server", one, told(settings.Apply(v, one, true)), refused(v, api.ProtocolError))
		hold(t, "Apply of a client", zero, told(settings.Apply(v, zero, false)), answer{v: no})
		hold(t, "Apply of a server", zero, told(settings.Apply(v, zero, true)), answer{v: no})
	}
}

// faulty are settings that neither a client nor a server may send.
var faulty = []struct {
	id    int
	value uint32
	code  api.Code
}{
	{api.EnablePush, 2, api.ProtocolError},
	{api.EnablePush, 3, api.ProtocolError},
	{api.EnablePush, 256, api.ProtocolError},
	{api.EnablePush, 1 << 31, api.ProtocolError},
	{api.EnablePush, 1<<32 - 1, api.ProtocolError},
	{api.InitialWindowSize, 1 << 31, api.FlowControlError},
	{api.InitialWindowSize, 1<<31 + 1, api.FlowControlError},
	{api.InitialWindowSize, 1<<32 - 1, api.FlowControlError},
	{api.MaxFrameSize, 0, api.ProtocolError},
	{api.MaxFrameSize, 1, api.ProtocolError},
	{api.MaxFrameSize, 16383, api.ProtocolError},
	{api.MaxFrameSize, 1 << 24, api.ProtocolError},
	{api.MaxFrameSize, 1<<24 + 16384, api.ProtocolError},
	{api.MaxFrameSize, 1 << 31, api.ProtocolError},
	{api.MaxFrameSize, 1<<32 - 1, api.ProtocolError},
}

func TestApplyOfFaulty(t *testing.T) {
	for _, c := range faulty {
		s := api.Setting{ID: c.id, Value: c.value}
		for _, v := range []api.Values{settings.Default(), others, {}} {
			hold(t, "Apply of a client", s, told(settings.Apply(v, s, false)), refused(v, c.code))
			hold(t, "Apply of a server", s, told(settings.Apply(v, s, true)), refused(v, c.code))
		}
	}
}

// Other IDs change nothing, whatever is said with them: nor do those whose
// lowest bits alone would be a known one.
func TestApplyOfUnknown(t *testing.T) {
	for _, id := range []int{
		0, 7, 8, 9, 10, 256, 257, 258, 260, 261, 65535, 65536, 65538, 1<<32 + 1, 1<<32 + 2, 1<<32 + 4, 1<<32 + 5,
		-1, -2, -4, -5, -6, math.MaxInt, math.MinInt, math.MinInt + 2, math.MinInt + 5,
	} {
		for _, value := range []uint32{0, 1, 2, 16383, 16384, 1 << 31, 1<<32 - 1} {
			s := api.Setting{ID: id, Value: value}
			for _, v := range []api.Values{settings.Default(), others, {}} {
				hold(t, "Apply of a client", s, told(settings.Apply(v, s, false)), answer{v: v})
				hold(t, "Apply of a server", s, told(settings.Apply(v, s, true)), answer{v: v})
			}
		}
	}
}

// The values that were may be any: what the setting does not name stays.
func TestApplyToValuesThatMayNotBe(t *testing.T) {
	v := api.Values{Table: -7, Streams: math.MinInt, Window: math.MaxInt, Frame: -1, List: -2}
	want := v
	want.Table = 5
	s := api.Setting{ID: api.HeaderTableSize, Value: 5}
	hold(t, "Apply", s, told(settings.Apply(v, s, false)), answer{v: want})
	s = api.Setting{ID: api.MaxFrameSize, Value: 5}
	hold(t, "Apply", s, told(settings.Apply(v, s, false)), refused(v, api.ProtocolError))
}

func TestAll(t *testing.T) {
	d := settings.Default()
	for _, c := range []struct {
		l    []api.Setting
		want api.Values
	}{
		{nil, d},
		{[]api.Setting{}, d},
		{[]api.Setting{{ID: 4, Value: 10}}, changed(func(v *api.Values) { v.Window = 10 })},
		{[]api.Setting{{ID: 9, Value: 1}, {ID: 0, Value: 1 << 31}, {ID: 7, Value: 2}}, d},
		{
			[]api.Setting{{ID: 4, Value: 10}, {ID: 9, Value: 1}, {ID: 2, Value: 0}},
			changed(func(v *api.Values) { v.Window, v.Push = 10, false }),
		},
		// All at once, and in an order that does not rise.
		{
			[]api.Setting{{ID: 6, Value: 4}, {ID: 5, Value: 20000}, {ID: 4, Value: 3}, {ID: 3, Value: 2}, {ID: 2, Value: 0}, {ID: 1, Value: 1}},
			others,
		},
		// The last one of the same ID holds.
		{[]api.Setting{{ID: 1, Value: 5}, {ID: 1, Value: 6}}, changed(func(v *api.Values) { v.Table = 6 })},
		{[]api.Setting{{ID: 1, Value: 6}, {ID: 3, Value: 1}, {ID: 1, Value: 5}}, changed(func(v *api.Values) { v.Table, v.Streams = 5, 1 })},
		{[]api.Setting{{ID: 4, Value: 10}, {ID: 4, Value: 65535}}, d},
	} {
		hold(t, "All of a client", c.l, told(settings.All(d, c.l, false)), answer{v: c.want})
		hold(t, "All of a server", c.l, told(settings.All(d, c.l, true)), answer{v: c.want})
	}
}

// What was right ahead of a fault counts as little as what stands behind it.
func TestAllOfFaulty(t *testing.T) {
	for _, c := range []struct {
		l              []api.Setting
		client, server api.Code
	}{
		{[]api.Setting{{ID: 5, Value: 16383}}, 1, 1},
		{[]api.Setting{{ID: 1, Value: 7}, {ID: 5, Value: 16383}}, 1, 1},
		{[]api.Setting{{ID: 5, Value: 16383}, {ID: 1, Value: 7}}, 1, 1},
		{[]api.Setting{{ID: 1, Value: 7}, {ID: 4, Value: 1 << 31}, {ID: 3, Value: 8}}, 3, 3},
		{[]api.Setting{{ID: 4, Value: 1 << 31}, {ID: 5, Value: 0}}, 3, 3},
		{[]api.Setting{{ID: 5, Value: 0}, {ID: 4, Value: 1 << 31}}, 1, 1},
		// A later one of the same ID makes nothing good.
		{[]api.Setting{{ID: 4, Value: 1 << 31}, {ID: 4, Value: 10}}, 3, 3},
		{[]api.Setting{{ID: 4, Value: 10}, {ID: 4, Value: 1 << 31}}, 3, 3},
		{[]api.Setting{{ID: 2, Value: 2}, {ID: 2, Value: 0}, {ID: 4, Value: 1 << 31}}, 1, 1},
		// What only a client may say ends a server's list.
		{[]api.Setting{{ID: 2, Value: 1}, {ID: 4, Value: 1 << 31}}, 3, 1},
	} {
		for _, v := range []api.Values{settings.Default(), others, {}} {
			hold(t, "All of a client", c.l, told(settings.All(v, c.l, false)), refused(v, c.client))
			hold(t, "All of a server", c.l, told(settings.All(v, c.l, true)), refused(v, c.server))
		}
	}
	push := []api.Setting{{ID: 1, Value: 7}, {ID: 2, Value: 1}}
	want := others
	want.Table, want.Push = 7, true
	hold(t, "All of a client", push, told(settings.All(others, push, false)), answer{v: want})
	hold(t, "All of a server", push, told(settings.All(others, push, true)), refused(others, api.ProtocolError))
}

func TestTell(t *testing.T) {
	d := settings.Default()
	for _, c := range []struct {
		is   api.Values
		want []api.Setting
	}{
		{d, nil},
		{changed(func(v *api.Values) { v.Table = 0 }), []api.Setting{{ID: 1, Value: 0}}},
		{changed(func(v *api.Values) { v.Table = 4097 }), []api.Setting{{ID: 1, Value: 4097}}},
		{changed(func(v *api.Values) { v.Push = false }), []api.Setting{{ID: 2, Value: 0}}},
		{changed(func(v *api.Values) { v.Streams = 0 }), []api.Setting{{ID: 3, Value: 0}}},
		{changed(func(v *api.Values) { v.Streams = 100 }), []api.Setting{{ID: 3, Value: 100}}},
		{changed(func(v *api.Values) { v.Window = 0 }), []api.Setting{{ID: 4, Value: 0}}},
		{changed(func(v *api.Values) { v.Frame = 16385 }), []api.Setting{{ID: 5, Value: 16385}}},
		{changed(func(v *api.Values) { v.List = 0 }), []api.Setting{{ID: 6, Value: 0}}},
		// What is told need not be what may be.
		{changed(func(v *api.Values) { v.Window = 1 << 31 }), []api.Setting{{ID: 4, Value: 1 << 31}}},
		{changed(func(v *api.Values) { v.Frame = 0 }), []api.Setting{{ID: 5, Value: 0}}},
		{others, []api.Setting{{ID: 1, Value: 1}, {ID: 2, Value: 0}, {ID: 3, Value: 2}, {ID: 4, Value: 3}, {ID: 5, Value: 20000}, {ID: 6, Value: 4}}},
		{changed(func(v *api.Values) { v.List, v.Push, v.Window = 9, false, 8 }), []api.Setting{{ID: 2, Value: 0}, {ID: 4, Value: 8}, {ID: 6, Value: 9}}},
	} {
		holdTell(t, d, c.is, c.want)
		holdTell(t, c.is, c.is, nil)
	}
	// The other way round: of no limit there is nothing to tell.
	holdTell(t, others, d, []api.Setting{{ID: 1, Value: 4096}, {ID: 2, Value: 1}, {ID: 4, Value: 65535}, {ID: 5, Value: 16384}})
}

// Of a number that no setting can say nothing is told, and the others are
// told beside it; what was there before does not count for that.
func TestTellAtTheBoundsOfNumbers(t *testing.T) {
	for _, c := range []struct {
		n    int
		told bool
	}{
		{0, true}, {1, true}, {1<<31 - 1, true}, {1 << 31, true}, {1<<32 - 2, true}, {1<<32 - 1, true},
		{1 << 32, false}, {1<<32 + 1, false}, {math.MaxInt, false},
		{-1, false}, {-2, false}, {1 - 1<<32, false}, {-1 << 32, false}, {math.MinInt, false},
	} {
		for id, r := range rows {
			is := settings.Default()
			is.Push = false
			*r.place(&is) = c.n
			want := []api.Setting{{ID: 2, Value: 0}}
			if c.told {
				want = append(want, api.Setting{ID: id, Value: uint32(c.n)})
				slices.SortFunc(want, func(a, b api.Setting) int { return a.ID - b.ID })
			}
			holdTell(t, settings.Default(), is, want)

			was := is
			*r.place(&is) = 20000
			holdTell(t, was, is, []api.Setting{{ID: id, Value: 20000}})
		}
	}
}

// edges are the numbers at which the chapter turns, and those beside them.
var edges = []int{
	math.MinInt, -1 << 32, -1 << 31, -2, -1, 0, 1, 2, 3, 255, 4095, 4096, 4097, 16383, 16384, 16385,
	65534, 65535, 65536, 1<<24 - 2, 1<<24 - 1, 1 << 24, 1<<31 - 2, 1<<31 - 1, 1 << 31, 1<<31 + 1,
	1<<32 - 2, 1<<32 - 1, 1 << 32, 1<<32 + 1, math.MaxInt,
}

func TestApplyIsAsThePlainModelAtEdges(t *testing.T) {
	for _, n := range edges {
		if n < 0 || n > highest {
			continue
		}
		for id := -300; id <= 70000; id++ {
			s := api.Setting{ID: id, Value: uint32(n)}
			for _, server := range []bool{false, true} {
				hold(t, "Apply", s, told(settings.Apply(others, s, server)), plainApply(others, s, server))
			}
		}
	}
}

func TestTellIsAsThePlainModelAtEdges(t *testing.T) {
	for _, before := range edges {
		for _, now := range edges {
			for _, r := range rows {
				was, is := settings.Default(), settings.Default()
				*r.place(&was), *r.place(&is) = before, now
				holdTell(t, was, is, plainTell(was, is))
			}
		}
	}
}

// someNumber is often near an edge, and often small.
func someNumber(r *rand.Rand) int {
	switch r.Intn(3) {
	case 0:
		return edges[r.Intn(len(edges))]
	case 1:
		return r.Intn(5)
	default:
		return r.Intn(1 << 33)
	}
}

// someValues are any, whether they may be or not.
func someValues(r *rand.Rand) api.Values {
	return api.Values{
		Table: someNumber(r), Push: r.Intn(2) == 0, Streams: someNumber(r),
		Window: someNumber(r), Frame: someNumber(r), List: someNumber(r),
	}
}

// someList is short, so that lists without a fault are not rare.
func someList(r *rand.Rand) []api.Setting {
	l := make([]api.Setting, r.Intn(5))
	for i := range l {
		l[i] = api.Setting{ID: r.Intn(9), Value: uint32(someNumber(r))}
	}
	return l
}

func TestAllAndTellAreAsThePlainModel(t *testing.T) {
	r := rand.New(rand.NewSource(1))
	for range 200000 {
		v, l, server := someValues(r), someList(r), r.Intn(2) == 0
		hold(t, "All", l, told(settings.All(v, l, server)), plainAll(v, l, server))
		is := someValues(r)
		if r.Intn(2) == 0 {
			is.Table, is.Streams, is.Frame = v.Table, v.Streams, v.Frame
		}
		holdTell(t, v, is, plainTell(v, is))
	}
}

// limit is -1, none, or from 0 to what a setting can say.
func limit(r *rand.Rand) int {
	return r.Intn(1<<32+1) - 1
}

// right makes values that may be.
func right(r *rand.Rand) api.Values {
	return api.Values{
		Table: r.Intn(1 << 32), Push: r.Intn(2) == 0, Streams: limit(r),
		Window: r.Intn(1 << 31), Frame: 16384 + r.Intn(1<<24-16384), List: limit(r),
	}
}

// Values that may be, told and applied, are what they were.
func TestToldAndApplied(t *testing.T) {
	r := rand.New(rand.NewSource(2))
	for range 100000 {
		is := right(r)
		if r.Intn(2) == 0 {
			is.Streams, is.List = -1, -1
		}
		l := settings.Tell(settings.Default(), is)
		hold(t, "All of a client", l, told(settings.All(settings.Default(), l, false)), answer{v: is})
		// Default is with pushes, so that a server never has to ask for them.
		hold(t, "All of a server", l, told(settings.All(settings.Default(), l, true)), answer{v: is})

		was := right(r)
		is.Streams, is.List = max(is.Streams, 0), max(is.List, 0)
		l = settings.Tell(was, is)
		hold(t, "All of a client", l, told(settings.All(was, l, false)), answer{v: is})
	}
}

// What a call is handed stays as it was, and is not kept; what it answers is
// the caller's (R1, R3).
func TestListsAreNotShared(t *testing.T) {
	d := settings.Default()
	l := []api.Setting{{ID: 4, Value: 10}, {ID: 5, Value: 1}, {ID: 1, Value: 3}}
	handed := slices.Clone(l)
	settings.All(d, l, false)
	settings.All(d, l[:1], false)
	if !slices.Equal(l, handed) {
		t.Errorf("All changed what it was handed: %v", l)
	}
	first := settings.Tell(d, others)
	want := slices.Clone(first)
	for i := range first {
		first[i] = api.Setting{ID: 99, Value: 99}
	}
	holdTell(t, d, others, want)
}

func FuzzSettings(f *testing.F) {
	f.Add(5, uint32(16383), 4, uint32(10), false)
	f.Add(2, uint32(1), 4, uint32(1<<31), true)
	f.Fuzz(func(t *testing.T, id int, value uint32, nextID int, nextValue uint32, server bool) {
		d := settings.Default()
		l := []api.Setting{{ID: id, Value: value}, {ID: nextID, Value: nextValue}}
		hold(t, "All", l, told(settings.All(d, l, server)), plainAll(d, l, server))
		v, _ := settings.All(d, l, server)
		holdTell(t, d, v, plainTell(d, v))
		holdTell(t, v, d, plainTell(v, d))
	})
}

package stream_test

import (
	"slices"
	"strings"

	"flume/api"
)

// The states and what is to be done, by the chapter's words.
var (
	stateNames = []string{"Idle", "Open", "HalfLocal", "HalfRemote", "Closed", "ClosedOurs", "ClosedTheirs"}
	doNames    = []string{"Takes", "Ignores", "Resets", "Breaks", "Refuses"}
)

// columns are the kinds in the order in which they stand in the tables.
var columns = []int{api.Headers, api.Data, api.Priority, api.RstStream, api.WindowUpdate, api.PushPromise}

// getTable and sendTable are the chapter's.
const getTable = `
| Idle | Takes: Open, HalfRemote | Breaks ProtocolError | Takes | Breaks ProtocolError | Breaks ProtocolError | Breaks ProtocolError |
| Open | Takes: Open, HalfRemote | likewise | Takes | Takes: ClosedTheirs | Takes | Breaks ProtocolError |
| HalfLocal | Takes: HalfLocal, Closed | likewise | Takes | Takes: ClosedTheirs | Takes | Breaks ProtocolError |
| HalfRemote | Resets StreamClosed: ClosedOurs | likewise | Takes | Takes: ClosedTheirs | Takes | Breaks ProtocolError |
| Closed | Breaks StreamClosed | likewise | Takes | Ignores | Ignores | Breaks ProtocolError |
| ClosedOurs | Ignores | likewise | Takes | Ignores | Ignores | Breaks ProtocolError |
| ClosedTheirs | Resets StreamClosed: ClosedOurs | likewise | Takes | Ignores | Resets StreamClosed: ClosedOurs | Breaks ProtocolError |
`

const sendTable = `
| Idle | Takes: Open, HalfLocal | Refuses | Takes | Refuses | Refuses | Refuses |
| Open | Takes: Open, HalfLocal | likewise | Takes | Takes: ClosedOurs | Takes | Refuses |
| HalfLocal | Refuses | Refuses | Takes | Takes: ClosedOurs | Takes | Refuses |
| HalfRemote | Takes: HalfRemote, Closed | likewise | Takes | Takes: ClosedOurs | Takes | Refuses |
| Closed, ClosedOurs, ClosedTheirs | Refuses | Refuses | Takes | Refuses | Refuses | Refuses |
`

// outcome is what Step answers.
type outcome struct {
	next, do int
	code     api.Code
}

// told makes an outcome of a call's results.
func told(next, do int, code api.Code) outcome {
	return outcome{next, do, code}
}

// split is what stands between the separators.
func split(text, separator string) []string {
	l := strings.Split(strings.Trim(text, " |"), separator)
	for i := range l {
		l[i] = strings.TrimSpace(l[i])
	}
	return l
}

// cellOf is what a table says of a state and a kind, "" if nothing.
func cellOf(table string, state, kind int) string {
	for _, line := range split(strings.TrimSpace(table), "\n") {
		row := split(line, "|")
		if !slices.Contains(split(row[0], ","), stateNames[state]) {
			continue
		}
		column := 1 + slices.Index(columns, kind)
		if column > 0 && row[column] == "likewise" {
			column--
		}
		if column > 0 {
			return row[column]
		}
	}
	return ""
}

// plainStep is Step by the words of the chapter.
func plainStep(state int, sends bool, kind int, end bool) outcome {
	if state < 0 || state >= len(stateNames) {
		return outcome{state, 4, 2}
	}
	table := getTable
	if sends {
		table = sendTable
	}
	cell := cellOf(table, state, kind)
	if cell == "" {
		return outcome{next: state}
	}
	says, states, moves := strings.Cut(cell, ": ")
	do, code, _ := strings.Cut(says, " ")
	o := outcome{next: state, do: slices.Index(doNames, do), code: codeOf(do, code)}
	if moves {
		l := split(states, ",")
		name := l[0]
		if end {
			name = l[len(l)-1]
		}
		o.next = slices.Index(stateNames, name)
	}
	return o
}

func codeOf(do, code string) api.Code {
	switch {
	case do == "Refuses":
		return 2
	case code == "ProtocolError":
		return 1
	case code == "StreamClosed":
		return 5
	default:
		return 0
	}
}

// model is Ids that keeps all numbers there ever were, each in a list.
type model struct {
	server      bool
	most, limit int
	opened      []int
	told        []int
	active      []int
}

func newModel(server bool, most int) *model {
	return &model{server: server, most: most, limit: 1<<31 - 1}
}

// areTheirs tells whether a number from 1 to 2^31 - 1 is of the other end.
func (m *model) areTheirs(id int) bool {
	if m.server {
		return id%2 == 1
	}
	return id%2 == 0
}

func (m *model) class(id int) int {
	past := func(l []int) bool {
		return slices.ContainsFunc(l, func(has int) bool { return has >= id })
	}
	switch {
	case id < 1 || id > 1<<31-1:
		return 0
	case m.areTheirs(id) && !past(m.opened):
		return 1
	case m.areTheirs(id):
		return 2
	case !past(m.told):
		return 3
	default:
		return 4
	}
}

// count is how many are active of theirs, or of ours.
func (m *model) count(theirs bool) int {
	n := 0
	for _, id := range m.active {
		if m.areTheirs(id) == theirs {
			n++
		}
	}
	return n
}

func (m *model) open(id int) api.Fault {
	if m.class(id) != 1 {
		return api.Fault{Is: true, Code: 1}
	}
	m.opened = append(m.opened, id)
	if m.count(true) >= max(0, m.most) {
		return api.Fault{Is: true, Code: 7, Stream: id}
	}
	m.active = append(m.active, id)
	return api.Fault{}
}

func (m *model) next() (int, api.Errno) {
	if m.count(false) >= max(0, m.limit) {
		return 0, api.ErrFull
	}
	id := 1
	for m.class(id) != 3 {
		id++
	}
	m.told = append(m.told, id)
	m.active = append(m.active, id)
	return id, api.OK
}

func (m *model) close(id int) api.Errno {
	i := slices.Index(m.active, id)
	if i < 0 {
		return api.ErrNone
	}
	m.active = slices.Delete(m.active, i, i+1)
	return api.OK
}

func (m *model) last() int {
	return slices.Max(append([]int{0}, m.opened...))
}

package octets

// mostQueue is the greatest bound of a queue.
const mostQueue = 1000000

// Queue holds octets in order (A2).
type Queue struct {
	held []byte
	most int
}

// New is a queue without octets, that holds most of them at most (A2).
func New(most int) *Queue {
	return &Queue{most: upTo(most, mostQueue)}
}

// Push puts as many of b in behind as have room; how many (A2).
func (q *Queue) Push(b []byte) int {
	n := min(len(b), q.Room())
	q.held = append(q.held, b[:n]...)
	return n
}

// Pop takes the first n out, or all, if there are less (A2).
func (q *Queue) Pop(n int) []byte {
	out := q.Peek(n)
	// What is left goes to the front, so that the room it leaves behind it
	// serves the next Push, which would else need new memory.
	left := copy(q.held, q.held[len(out):])
	q.held = q.held[:left]
	return out
}

// Peek is what Pop would take out (A2). It is a copy, for what is held moves
// with the next Pop, and the caller may write over what it was given.
func (q *Queue) Peek(n int) []byte {
	out := make([]byte, upTo(n, len(q.held)))
	copy(out, q.held)
	return out
}

// Len is how many octets there are (A2).
func (q *Queue) Len() int {
	return len(q.held)
}

// Room is how many more there can be (A2).
func (q *Queue) Room() int {
	return q.most - len(q.held)
}

// upTo is n, but most, if it is more, and none, if it is below 0.
func upTo(n, most int) int {
	return max(0, min(n, most))
}

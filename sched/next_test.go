package sched_test

import (
	"math"
	"testing"

	"flume/api"
	"flume/sched"
)

// Control frames go ahead of all data.
func TestControlGoesFirst(t *testing.T) {
	s := holding(t, 1, 50, 20, false)
	data(t, s, 19, 1, 10, false)
	s.Control([]byte("ab"))
	s.Control([]byte("c"))
	control(t, s, 19, "ab")
	control(t, s, 19, "c")
	data(t, s, 19, 1, 10, false)
}

// A control frame that has no room lets nothing by, neither a shorter one nor
// data.
func TestControlWithoutRoom(t *testing.T) {
	s := holding(t, 1, 50, 20, true)
	s.Control(make([]byte, 40))
	s.Control([]byte("b"))
	for _, capacity := range []int{39, 30, 10, 9, 1, 0, -1, math.MinInt} {
		none(t, s, capacity)
		has(t, s, 2, 1, 65535)
		waits(t, s, 1, 20, 50)
	}
	control(t, s, 40, string(make([]byte, 40)))
	none(t, s, 0)
	control(t, s, 1, "b")
	data(t, s, 40, 1, 20, true)
}

// A control frame needs no room but its own.
func TestControlNeedsNoFrameHead(t *testing.T) {
	for n := 1; n <= 20; n++ {
		s := sched.New(10)
		s.Control(make([]byte, n))
		none(t, s, n-1)
		has(t, s, 1, 0, 65535)
		control(t, s, n, string(make([]byte, n)))
		has(t, s, 0, 0, 65535)
	}
}

// A control frame leaves windows and the queue as they are.
func TestControlChangesNothingElse(t *testing.T) {
	s := with(t, 50, 1, 3)
	puts(t, s, 1, 2, false, api.OK)
	puts(t, s, 3, 2, false, api.OK)
	s.Control([]byte("abc"))
	control(t, s, 100, "abc")
	waits(t, s, 1, 2, 50)
	has(t, s, 0, 2, 65535)
	data(t, s, 100, 1, 2, false)
	data(t, s, 100, 3, 2, false)
}

// Whichever is the least of what waits, both windows, the frame and the room
// says how much goes.
func TestLeastBound(t *testing.T) {
	for _, c := range []struct{ octets, window, conn, frame, room, want int }{
		{5, 60, 70, 80, 90, 5}, {90, 5, 60, 70, 80, 5}, {80, 90, 5, 60, 70, 5}, {70, 80, 90, 5, 60, 5}, {60, 70, 80, 90, 5, 5},
		{7, 7, 7, 7, 7, 7}, {1, 1, 1, 1, 1, 1}, {1, 9, 9, 9, 9, 1}, {9, 1, 9, 9, 9, 1}, {9, 9, 1, 9, 9, 1}, {9, 9, 9, 1, 9, 1}, {9, 9, 9, 9, 1, 1},
		{most, most, most, 1 << 24, math.MaxInt - 9, 1<<24 - 1}, {most, most, most, 1 << 24, 3, 3},
		{most, most, 65535, 1 << 24, most, 65535}, {most, 1 << 23, most, 1 << 24, most, 1 << 23},
	} {
		s := sched.New(c.frame)
		opens(t, s, 1, c.window, api.OK)
		puts(t, s, 1, c.octets, false, api.OK)
		grants(t, s, 0, c.conn-65535, api.OK)
		data(t, s, c.room+9, 1, c.want, false)
		waits(t, s, 1, c.octets-c.want, c.window-c.want)
		has(t, s, 0, 1, c.conn-c.want)
	}
}

func TestWindowsOfNothing(t *testing.T) {
	for _, window := range []int{0, -1, -5, 1 - most, -most} {
		s := holding(t, 1, window, 5, true)
		none(t, s, 100)
		waits(t, s, 1, 5, window)
		grants(t, s, 1, 1-window, api.OK)
		data(t, s, 100, 1, 1, false)

		s = holding(t, 1, 50, 5, true)
		grants(t, s, 0, window-65535, api.OK)
		none(t, s, 100)
		has(t, s, 0, 1, window)
		waits(t, s, 1, 5, 50)
		grants(t, s, 0, 1-window, api.OK)
		data(t, s, 100, 1, 1, false)
		has(t, s, 0, 1, 0)
	}
}

// No octet of any stream goes where the connection has no window.
func TestConnectionsWindowIsAllStreams(t *testing.T) {
	s := with(t, 100, 1, 3, 5)
	for _, id := range []int{1, 3, 5} {
		puts(t, s, id, 50, true, api.OK)
	}
	grants(t, s, 0, 70-65535, api.OK)
	data(t, s, 1000, 1, 50, true)
	data(t, s, 1000, 3, 20, false)
	none(t, s, 1000)
	waits(t, s, 3, 30, 80)
	waits(t, s, 5, 50, 100)
	grants(t, s, 0, 60, api.OK)
	data(t, s, 1000, 5, 50, true)
	data(t, s, 1000, 3, 10, false)
	none(t, s, 1000)
	has(t, s, 0, 1, 0)
}

// Where the connection has no window, or the first ones have none, ends without
// octets go all the same, ahead of what must wait.
func TestEndAlonePassesOverWhatHasNoWindow(t *testing.T) {
	for _, window := range []int{0, -1, -most} {
		s := with(t, 100, 1, 3, 5)
		puts(t, s, 1, 5, true, api.OK)
		puts(t, s, 5, 0, true, api.OK)
		grants(t, s, 0, window-65535, api.OK)
		data(t, s, 9, 5, 0, true)
		none(t, s, 100)
		grants(t, s, 0, 10-window, api.OK)
		data(t, s, 100, 1, 5, true)

		s = with(t, window, 1, 3)
		opens(t, s, 5, 100, api.OK)
		puts(t, s, 1, 5, true, api.OK)
		puts(t, s, 5, 0, true, api.OK)
		data(t, s, 9, 5, 0, true)
		none(t, s, 100)
		waits(t, s, 1, 5, window)
	}
}

// An end without octets needs no window, and room for the head alone.
func TestEndAlone(t *testing.T) {
	for _, window := range []int{most, 1, 0, -1, -most} {
		for _, conn := range []int{most, 1, 0, -1, -most} {
			for _, capacity := range []int{9, 10, 100, math.MaxInt} {
				s := holding(t, 1, window, 0, true)
				grants(t, s, 0, conn-65535, api.OK)
				none(t, s, 8)
				waits(t, s, 1, 0, window)
				data(t, s, capacity, 1, 0, true)
				isNone(t, s, 1)
				has(t, s, 0, 0, conn)
				none(t, s, capacity)
			}
		}
	}
}

// An end that comes when all octets went is sent alone.
func TestEndBehindAllOctets(t *testing.T) {
	s := holding(t, 1, 5, 5, false)
	data(t, s, 100, 1, 5, false)
	none(t, s, 100)
	puts(t, s, 1, 0, true, api.OK)
	data(t, s, 100, 1, 0, true)
	isNone(t, s, 1)
}

// The end goes with the last octet, not ahead of it.
func TestEndGoesWithTheLastOctet(t *testing.T) {
	s := holding(t, 1, 100, 12, true)
	data(t, s, 14, 1, 5, false)
	data(t, s, 15, 1, 6, false)
	waits(t, s, 1, 1, 89)
	data(t, s, 100, 1, 1, true)
	isNone(t, s, 1)
	has(t, s, 0, 0, 65523)

	// No window holds it up: what is left has just room.
	s = holding(t, 1, 12, 12, true)
	grants(t, s, 0, 12-65535, api.OK)
	data(t, s, 21, 1, 12, true)
	has(t, s, 0, 0, 0)
}

// A stream without an end stays, though nothing of it waits.
func TestStreamsStayTillTheirEnd(t *testing.T) {
	s := holding(t, 1, 100, 5, false)
	data(t, s, 100, 1, 5, false)
	waits(t, s, 1, 0, 95)
	none(t, s, 100)
	puts(t, s, 1, 2, false, api.OK)
	data(t, s, 100, 1, 2, false)
	waits(t, s, 1, 0, 93)
	has(t, s, 0, 1, 65528)
}

func TestTooLittleRoom(t *testing.T) {
	for _, capacity := range []int{9, 8, 1, 0, -1, -9, -most, math.MinInt, math.MinInt + 8} {
		s := holding(t, 1, 100, 5, true)
		none(t, s, capacity)
		waits(t, s, 1, 5, 100)
		has(t, s, 0, 1, 65535)
		data(t, s, 10, 1, 1, false)
	}
}

// The first one that is ready is the one that may send: where it has no room,
// no other one goes ahead of it.
func TestFirstWithoutRoomIsNotOvertaken(t *testing.T) {
	s := with(t, 100, 1, 3)
	puts(t, s, 1, 5, false, api.OK)
	puts(t, s, 3, 0, true, api.OK)
	none(t, s, 9)
	has(t, s, 0, 2, 65535)
	data(t, s, 100, 1, 5, false)
	data(t, s, 9, 3, 0, true)
}

// An end that is first goes where the octets behind it have no room.
func TestFirstIsAnEndAlone(t *testing.T) {
	s := with(t, 100, 1, 3)
	puts(t, s, 3, 5, false, api.OK)
	puts(t, s, 1, 0, true, api.OK)
	data(t, s, 9, 1, 0, true)
	none(t, s, 9)
	data(t, s, 10, 3, 1, false)
}

// Those that are not ready are passed over, and keep their places.
func TestOthersArePassedOver(t *testing.T) {
	s := with(t, 100, 1, 3)
	opens(t, s, 5, 0, api.OK)
	opens(t, s, 7, -3, api.OK)
	opens(t, s, 9, 100, api.OK)
	puts(t, s, 3, 1, false, api.OK)
	puts(t, s, 5, 1, true, api.OK)
	puts(t, s, 7, 1, false, api.OK)
	puts(t, s, 9, 2, false, api.OK)
	data(t, s, 10, 3, 1, false)
	data(t, s, 10, 9, 1, false)
	// 3 stands behind 7 now, and 9 behind 3; 1, 5 and 7 stand where they did.
	puts(t, s, 3, 1, false, api.OK)
	puts(t, s, 1, 1, false, api.OK)
	grants(t, s, 5, 1, api.OK)
	grants(t, s, 7, 4, api.OK)
	data(t, s, 10, 1, 1, false)
	data(t, s, 10, 5, 1, true)
	data(t, s, 10, 7, 1, false)
	data(t, s, 10, 3, 1, false)
	data(t, s, 10, 9, 1, false)
	none(t, s, 10)
}

// The order is that of the opening, not of the numbers, nor of the putting.
func TestQueueIsInTheOrderOfOpening(t *testing.T) {
	s := with(t, 100, 7, 2, 9, 1)
	for _, id := range []int{1, 2, 7, 9} {
		puts(t, s, id, id, true, api.OK)
	}
	for _, id := range []int{7, 2, 9, 1} {
		data(t, s, 100, id, id, true)
	}
	none(t, s, 100)
}

// Putting, granting and what is refused leave a stream where it stands.
func TestPlacesStay(t *testing.T) {
	s := with(t, 100, 1, 3, 5)
	for _, id := range []int{1, 3, 5} {
		puts(t, s, id, 10, false, api.OK)
	}
	puts(t, s, 1, 5, true, api.OK)
	grants(t, s, 1, 7, api.OK)
	grants(t, s, 3, -7, api.OK)
	opens(t, s, 1, 100, api.ErrState)
	puts(t, s, 1, 1, false, api.ErrState)
	none(t, s, 9)
	data(t, s, 100, 1, 15, true)
	data(t, s, 100, 3, 10, false)
	data(t, s, 100, 5, 10, false)
}

func TestTurns(t *testing.T) {
	s := sched.New(4)
	for _, id := range []int{1, 3, 5} {
		opens(t, s, id, 100, api.OK)
		puts(t, s, id, 2*id, true, api.OK)
	}
	data(t, s, 100, 1, 2, true)
	data(t, s, 100, 3, 4, false)
	data(t, s, 100, 5, 4, false)
	// One that is opened stands behind those that had their turn.
	opens(t, s, 7, 100, api.OK)
	puts(t, s, 7, 5, true, api.OK)
	data(t, s, 100, 3, 2, true)
	data(t, s, 100, 5, 4, false)
	data(t, s, 100, 7, 4, false)
	data(t, s, 100, 5, 2, true)
	data(t, s, 100, 7, 1, true)
	none(t, s, 100)
	has(t, s, 0, 0, 65535-23)
}

// One that is refused for want of room changes no place, however often.
func TestNoneChangesNothing(t *testing.T) {
	s := with(t, 100, 1, 3)
	puts(t, s, 1, 5, true, api.OK)
	puts(t, s, 3, 5, true, api.OK)
	for range 5 {
		none(t, s, 9)
		none(t, s, 0)
		none(t, s, -1)
	}
	waits(t, s, 1, 5, 100)
	waits(t, s, 3, 5, 100)
	has(t, s, 0, 2, 65535)
	data(t, s, 100, 1, 5, true)
	data(t, s, 100, 3, 5, true)
}

package stream

import "flume/api"

// Step is the state behind a frame, what is to be done, and a code (I1).
func Step(state int, sends bool, kind int, end bool) (int, int, api.Code) {
	switch {
	case !isState(state):
		return refuses(state)
	case sends:
		return send(state, kind, end)
	default:
		return get(state, kind, end)
	}
}

func isState(n int) bool {
	return n >= Idle && n <= ClosedTheirs
}

// get is Step of a frame that comes.
func get(state, kind int, end bool) (int, int, api.Code) {
	switch kind {
	case api.Headers:
		return getMessage(state, end)
	case api.Data:
		// No message begins with data.
		if state == Idle {
			return breaks(state, api.ProtocolError)
		}
		return getMessage(state, end)
	case api.RstStream:
		return getReset(state)
	case api.WindowUpdate:
		return getUpdate(state)
	case api.PushPromise:
		// Nobody may push here, so it is wrong whatever the state is.
		return breaks(state, api.ProtocolError)
	default:
		return takes(state)
	}
}

// getMessage is get of a part of a message, HEADERS or DATA. What comes behind
// an end is a fault; but whoever was sent a reset may not know of it yet.
func getMessage(state int, end bool) (int, int, api.Code) {
	switch state {
	case Idle, Open:
		return takes(choose(end, HalfRemote, Open))
	case HalfLocal:
		return takes(choose(end, Closed, HalfLocal))
	case Closed:
		return breaks(state, api.StreamClosed)
	case ClosedOurs:
		return ignores(state)
	default:
		return resets()
	}
}

// getReset is get of RST_STREAM. One that comes to a stream that is closed may
// have been under way when it was, and is never answered by another one.
func getReset(state int) (int, int, api.Code) {
	switch state {
	case Idle:
		return breaks(state, api.ProtocolError)
	case Open, HalfLocal, HalfRemote:
		return takes(ClosedTheirs)
	default:
		return ignores(state)
	}
}

// getUpdate is get of WINDOW_UPDATE. One may be under way when a stream is
// closed, but not behind the peer's own reset.
func getUpdate(state int) (int, int, api.Code) {
	switch state {
	case Idle:
		return breaks(state, api.ProtocolError)
	case Open, HalfLocal, HalfRemote:
		return takes(state)
	case ClosedTheirs:
		return resets()
	default:
		return ignores(state)
	}
}

// send is Step of a frame that goes.
func send(state, kind int, end bool) (int, int, api.Code) {
	switch kind {
	case api.Headers:
		return sendMessage(state, end)
	case api.Data:
		// No message begins with data.
		if state == Idle {
			return refuses(state)
		}
		return sendMessage(state, end)
	case api.RstStream:
		return sendLiving(state, ClosedOurs)
	case api.WindowUpdate:
		return sendLiving(state, state)
	case api.PushPromise:
		return refuses(state)
	default:
		return takes(state)
	}
}

// sendMessage is send of a part of a message, HEADERS or DATA.
func sendMessage(state int, end bool) (int, int, api.Code) {
	switch state {
	case Idle, Open:
		return takes(choose(end, HalfLocal, Open))
	case HalfRemote:
		return takes(choose(end, Closed, HalfRemote))
	default:
		return refuses(state)
	}
}

// sendLiving is send of what only a stream can carry that was opened and is
// not closed, and that makes it next.
func sendLiving(state, next int) (int, int, api.Code) {
	switch state {
	case Open, HalfLocal, HalfRemote:
		return takes(next)
	default:
		return refuses(state)
	}
}

// choose is one of two numbers, by what is asked.
func choose(asked bool, yes, no int) int {
	if asked {
		return yes
	}
	return no
}

func takes(next int) (int, int, api.Code) {
	return next, Takes, api.NoError
}

func ignores(state int) (int, int, api.Code) {
	return state, Ignores, api.NoError
}

// resets ends in the one state of a stream that this end has reset.
func resets() (int, int, api.Code) {
	return ClosedOurs, Resets, api.StreamClosed
}

func breaks(state int, code api.Code) (int, int, api.Code) {
	return state, Breaks, code
}

func refuses(state int) (int, int, api.Code) {
	return state, Refuses, api.InternalError
}

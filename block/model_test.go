package block_test

import "flume/api"

// answer is all that is to be seen behind a step.
type answer struct {
	frame  api.Frame
	ok     bool
	fault  api.Fault
	stream int
	isOpen bool
	octets int
}

// plain is what is to be seen when all of these frames were handed in. Nothing
// is kept from one step to the next: all frames are read again from the first
// one on, group by group. A group is a block's frames, or a frame of its own.
func plain(most int, frames []api.Frame) answer {
	if most < 0 {
		most = 0
	}
	var last answer
	for len(frames) > 0 {
		group := frames[:groupOf(frames)]
		frames = frames[len(group):]
		if code := wrongIn(most, group); code != api.NoError {
			return answer{fault: api.Fault{Is: true, Code: code}}
		}
		last = wholeOf(group)
	}
	return last
}

// groupOf is of how many frames the first group is: those of a block up to the
// one that ends it, be they right or not.
func groupOf(frames []api.Frame) int {
	if frames[0].Kind != 1 {
		return 1
	}
	for i, f := range frames {
		if f.EndHeaders && (i == 0 || f.Kind == 9) {
			return i + 1
		}
	}
	return len(frames)
}

// wrongIn is the code of the first frame of a group that may not be there.
func wrongIn(most int, group []api.Frame) api.Code {
	if group[0].Kind == 9 {
		return api.ProtocolError
	}
	if group[0].Kind != 1 {
		return api.NoError
	}
	for i, f := range group {
		switch {
		case i > 0 && (f.Kind != 9 || f.Stream != group[0].Stream):
			return api.ProtocolError
		case i > 32, len(octetsOf(group[:i+1])) > most:
			return api.EnhanceYourCalm
		}
	}
	return api.NoError
}

// wholeOf is what a group without a fault answers at its last frame.
func wholeOf(group []api.Frame) answer {
	f := group[0]
	if f.Kind != 1 {
		return answer{frame: f, ok: true}
	}
	b := octetsOf(group)
	if !group[len(group)-1].EndHeaders {
		return answer{stream: f.Stream, isOpen: true, octets: len(b)}
	}
	f.EndHeaders = true
	f.Payload = b
	return answer{frame: f, ok: true}
}

func octetsOf(group []api.Frame) []byte {
	var b []byte
	for _, f := range group {
		b = append(b, f.Payload...)
	}
	return b
}

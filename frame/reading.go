package frame

import (
	"flume/api"
	"flume/octets"
)

// reading is a frame as far as it is known, and the octets that are left to
// be read. Those that are taken have to be there.
type reading struct {
	frame api.Frame
	left  []byte
}

func (r *reading) number(n int) uint64 {
	v, _ := octets.Uint(r.left, n)
	r.left = r.left[n:]
	return v
}

// stream reads a word whose highest bit is nothing.
func (r *reading) stream() int {
	return int(r.number(wordOctets) &^ highestBit)
}

// padding reads the first octet, and takes away what that says is last, if it
// is not above most.
func (r *reading) padding(most int) api.Fault {
	n := int(r.number(octet))
	if n > most {
		return faultOf(api.ProtocolError, 0)
	}
	r.frame.Pad = n + 1
	r.left = r.left[:len(r.left)-n]
	return api.Fault{}
}

// payload reads what is left as its kind asks.
func (r *reading) payload() {
	if isKnown(r.frame.Kind) {
		readers()[r.frame.Kind](r)
	} else {
		r.rest()
	}
}

// readers are those of payloads, by the kind.
func readers() [len(shapes)]func(*reading) {
	return [...]func(*reading){
		api.Data:         (*reading).rest,
		api.Headers:      (*reading).headers,
		api.Priority:     (*reading).priority,
		api.RstStream:    (*reading).code,
		api.Settings:     (*reading).list,
		api.PushPromise:  (*reading).promise,
		api.Ping:         (*reading).rest,
		api.Goaway:       (*reading).goaway,
		api.WindowUpdate: (*reading).inc,
		api.Continuation: (*reading).rest,
	}
}

// rest reads the Payload, into memory of its own: the caller may write over it
// and the parser over what it held.
func (r *reading) rest() {
	r.frame.Payload = append([]byte(nil), r.left...)
}

func (r *reading) headers() {
	if r.frame.Prio {
		r.priority()
	}
	r.rest()
}

func (r *reading) priority() {
	v := r.number(wordOctets)
	r.frame.Depend = int(v &^ highestBit)
	r.frame.Exclusive = v&highestBit != 0
	r.frame.Weight = int(r.number(octet)) + 1
}

func (r *reading) code() {
	r.frame.Code = api.Code(r.number(wordOctets))
}

func (r *reading) list() {
	for len(r.left) > 0 {
		id := int(r.number(idOctets))
		value := uint32(r.number(wordOctets))
		r.frame.List = append(r.frame.List, api.Setting{ID: id, Value: value})
	}
}

func (r *reading) promise() {
	r.frame.Last = r.stream()
	r.rest()
}

func (r *reading) goaway() {
	r.frame.Last = r.stream()
	r.code()
	r.rest()
}

func (r *reading) inc() {
	r.frame.Inc = r.stream()
}

package frame

import "flume/api"

// head is what stands ahead of a payload. Parts is what the flags say that
// the frame has, of that which its kind can have.
type head struct {
	length, kind, flags, stream int
	parts                       parts
}

// headOf is that with which octets begin, of which there are enough.
func headOf(b []byte) head {
	r := reading{left: b}
	h := head{
		length: int(r.number(lengthOctets)),
		kind:   int(r.number(octet)),
		flags:  int(r.number(octet)),
		stream: r.stream(),
	}
	for _, x := range flagBits {
		if h.flags&x.bit != 0 {
			h.parts |= x.part & shapeOf(h.kind).parts
		}
	}
	return h
}

// frame is that of a head and its payload, or what is wrong with it.
func (h head) frame(payload []byte) (api.Frame, api.Fault) {
	x := h.check()
	r := reading{frame: h.flagged(), left: payload}
	if !x.Is && h.parts.has(hasPad) {
		x = r.padding(h.length - h.must())
	}
	if !x.Is {
		r.payload()
		x = unfit(r.frame)
	}
	if x.Is {
		return api.Frame{}, x
	}
	return r.frame, x
}

// check is what is wrong, so far as the payload itself need not be known.
func (h head) check() api.Fault {
	switch {
	case !shapeOf(h.kind).place.allows(h.stream):
		return faultOf(api.ProtocolError, 0)
	case h.hasLength():
		return api.Fault{}
	case h.kind == api.Priority:
		return faultOf(api.FrameSizeError, h.stream)
	default:
		return faultOf(api.FrameSizeError, 0)
	}
}

// hasLength tells whether the payload may be as long as it is.
func (h head) hasLength() bool {
	more := shapeOf(h.kind).more
	if h.parts.has(hasAck) {
		more = 0
	}
	behind := h.length - h.must()
	if more == 0 {
		return behind == 0
	}
	return behind >= 0 && behind%more == 0
}

// must is how many octets must stand in the payload.
func (h head) must() int {
	n := shapeOf(h.kind).must
	if h.parts.has(hasPad) {
		n += octet
	}
	if h.parts.has(hasPrio) {
		n += priorityOctets
	}
	return n
}

// flagged is the frame as far as the head tells it.
func (h head) flagged() api.Frame {
	f := api.Frame{
		Kind:       h.kind,
		Stream:     h.stream,
		End:        h.parts.has(hasEnd),
		EndHeaders: h.parts.has(hasEndHeaders),
		Ack:        h.parts.has(hasAck),
		Prio:       h.parts.has(hasPrio),
	}
	if !isKnown(h.kind) {
		f.Flags = h.flags
	}
	return f
}

// unfit is what is wrong with a frame of which all has been read.
func unfit(f api.Frame) api.Fault {
	switch {
	case f.Kind == api.PushPromise && f.Last == 0:
		return faultOf(api.ProtocolError, 0)
	case f.Kind == api.WindowUpdate && f.Inc == 0:
		return faultOf(api.ProtocolError, f.Stream)
	default:
		return api.Fault{}
	}
}

func faultOf(code api.Code, stream int) api.Fault {
	return api.Fault{Is: true, Code: code, Stream: stream}
}

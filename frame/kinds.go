package frame

import "flume/api"

// How many octets the numbers have, and what is made of these.
const (
	octet          = 1
	idOctets       = 2
	lengthOctets   = 3
	wordOctets     = 4
	priorityOctets = wordOctets + octet
	settingOctets  = idOctets + wordOctets
	pingOctets     = 8
)

// highestBit of a word is above a stream's number; it is nothing, or says
// Exclusive.
const highestBit = 1 << 31

const (
	mostOctet  = 1<<8 - 1
	mostID     = 1<<16 - 1
	mostPad    = mostOctet + 1
	mostWeight = mostOctet + 1
)

// parts is a set of what a frame can have beside its kind and its stream.
type parts int

const (
	hasEnd parts = 1 << iota
	hasEndHeaders
	hasAck
	hasPad
	hasPrio
	// hasPriority stands for Depend, Exclusive and Weight.
	hasPriority
	hasPayload
	hasFlags
	hasList
	hasLast
	hasCode
	hasInc
)

// has tells whether some of q is in p.
func (p parts) has(q parts) bool {
	return p&q != 0
}

// flagBits are the flags that say that a part is there. Two are the same, but
// no kind has both of these parts.
var flagBits = [...]struct {
	part parts
	bit  int
}{
	{hasEnd, 1},
	{hasAck, 1},
	{hasEndHeaders, 4},
	{hasPad, 8},
	{hasPrio, 32},
}

// place is the streams on which a kind may be.
type place int

const (
	anywhere place = iota
	onStreams
	onConnection
)

// allows tells whether a stream is one of the place.
func (p place) allows(stream int) bool {
	switch p {
	case onStreams:
		return stream != 0
	case onConnection:
		return stream == 0
	default:
		return true
	}
}

// shape is what holds for all frames of a kind. Must is how many octets stand
// in each payload, but for those that a flag asks for. Behind these stand as
// many as there are, more at a time; or none, if more is 0.
type shape struct {
	place place
	parts parts
	must  int
	more  int
}

var shapes = [...]shape{
	api.Data:         {onStreams, hasEnd | hasPad | hasPayload, 0, octet},
	api.Headers:      {onStreams, hasEnd | hasEndHeaders | hasPad | hasPrio | hasPayload, 0, octet},
	api.Priority:     {onStreams, hasPriority, priorityOctets, 0},
	api.RstStream:    {onStreams, hasCode, wordOctets, 0},
	api.Settings:     {onConnection, hasAck | hasList, 0, settingOctets},
	api.PushPromise:  {onStreams, hasEndHeaders | hasPad | hasLast | hasPayload, wordOctets, octet},
	api.Ping:         {onConnection, hasAck | hasPayload, pingOctets, 0},
	api.Goaway:       {onConnection, hasLast | hasCode | hasPayload, wordOctets + wordOctets, octet},
	api.WindowUpdate: {anywhere, hasInc, wordOctets, 0},
	api.Continuation: {onStreams, hasEndHeaders | hasPayload, 0, octet},
}

// isKnown tells whether a kind, which is not below 0, has a shape of its own.
func isKnown(kind int) bool {
	return kind < len(shapes)
}

// shapeOf is that of a kind, which is not below 0.
func shapeOf(kind int) shape {
	if isKnown(kind) {
		return shapes[kind]
	}
	return shape{anywhere, hasFlags | hasPayload, 0, octet}
}

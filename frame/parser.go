package frame

import "flume/api"

// Parser finds frames (F2).
type Parser struct {
	held []byte
	max  int
	done bool
}

// New is a parser that holds nothing (F2).
func New(max int) *Parser {
	p := &Parser{}
	p.SetMax(max)
	return p
}

// SetMax sets Max (F2).
func (p *Parser) SetMax(n int) {
	p.max = min(max(n, api.MinFrame), api.MostFrame)
}

// Feed takes octets; how many (F2).
func (p *Parser) Feed(b []byte) int {
	if p.done {
		return 0
	}
	room := max(0, api.FrameHead+p.max-len(p.held))
	n := min(len(b), room)
	p.held = append(p.held, b[:n]...)
	return n
}

// Next is the next frame, or fault (F2).
func (p *Parser) Next() (api.Frame, api.Fault, bool) {
	// A parser that is done holds nothing.
	if len(p.held) < api.FrameHead {
		return api.Frame{}, api.Fault{}, false
	}
	h := headOf(p.held)
	if h.length > p.max {
		return p.told(api.Frame{}, faultOf(api.FrameSizeError, 0))
	}
	size := api.FrameHead + h.length
	if len(p.held) < size {
		return api.Frame{}, api.Fault{}, false
	}
	payload := p.held[api.FrameHead:size]
	// What is left stays where it is: moving it with each frame would take
	// long where many small ones are held.
	p.held = p.held[size:]
	return p.told(h.frame(payload))
}

// told is what Next answers. Behind a fault of the connection it is no more
// known where a frame begins, or it may not go on.
func (p *Parser) told(f api.Frame, x api.Fault) (api.Frame, api.Fault, bool) {
	if x.Is && x.Stream == 0 {
		p.done = true
		p.held = nil
	}
	return f, x, true
}

// Size is how many octets are held (F2).
func (p *Parser) Size() int {
	return len(p.held)
}

package window

import "flume/api"

// Credit is what a peer may send (G2). Its window is not kept beside the
// three: it is always their sum.
type Credit struct {
	left  int
	held  int
	freed int
}

// New is a credit of which all is left (G2).
func New(window int) *Credit {
	return &Credit{left: min(max(window, 1), api.MostWindow)}
}

// Got tells that n octets came (G2).
func (c *Credit) Got(n int) api.Errno {
	if n < 0 {
		return api.ErrArg
	}
	if n > c.left {
		return api.ErrRange
	}
	c.left -= n
	c.held += n
	return api.OK
}

// Free tells that n octets are held no more (G2).
func (c *Credit) Free(n int) api.Errno {
	if n < 0 || n > c.held {
		return api.ErrArg
	}
	c.held -= n
	c.freed += n
	return api.OK
}

// Due is what should be granted again (G2). Little is left to grow, for each
// grant costs a frame.
func (c *Credit) Due() int {
	window := c.left + c.held + c.freed
	if 2*c.freed < window {
		return 0
	}
	return c.freed
}

// Give grants what is due (G2).
func (c *Credit) Give() int {
	due := c.Due()
	c.left += due
	c.freed -= due
	return due
}

// Left is how much the peer may send (G2).
func (c *Credit) Left() int {
	return c.left
}

// Held is how much came and was not freed (G2).
func (c *Credit) Held() int {
	return c.held
}

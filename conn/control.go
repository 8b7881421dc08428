package conn

import (
	"flume/api"
	"flume/settings"
	"flume/stream"
)

// takeReset takes RST_STREAM.
func (c *Conn) takeReset(f api.Frame) {
	x, ok := c.living(f)
	if !ok {
		return
	}
	_, do, code := c.step(x, f)
	if do != stream.Takes {
		c.obey(x, do, code)
		return
	}
	c.tell(api.Event{Kind: api.EvReset, Stream: x.id, Code: f.Code})
	c.drop(x)
}

// takeSettings takes SETTINGS. All that goes out behind the answer keeps to
// them.
func (c *Conn) takeSettings(f api.Frame) {
	if f.Ack {
		return
	}
	peer, wrong := settings.All(c.peer, f.List, !c.server)
	if wrong.Is {
		c.fail(wrong.Code)
		return
	}
	// Of streams that have nothing more to send no window is known.
	for _, x := range c.streams {
		if c.turns.Grant(x.id, peer.Window-c.peer.Window) == api.ErrRange {
			c.fail(api.FlowControlError)
			return
		}
	}
	c.turns.SetFrame(peer.Frame)
	if tableFor(peer) != tableFor(c.peer) {
		c.encoder.SetMax(tableFor(peer))
	}
	c.ids.Limit(orElse(peer.Streams, api.MostStream))
	c.peer = peer
	c.send(api.Frame{Kind: api.Settings, Ack: true})
	c.tell(api.Event{Kind: api.EvSettings})
}

// tableFor is what our table of fields may have for a peer. It need not be as
// large as the peer lets it be.
func tableFor(peer api.Values) int {
	return min(peer.Table, tableSize)
}

// takePing takes PING.
func (c *Conn) takePing(f api.Frame) {
	if !f.Ack {
		c.send(api.Frame{Kind: api.Ping, Ack: true, Payload: f.Payload})
	}
}

// takeUpdate takes WINDOW_UPDATE.
func (c *Conn) takeUpdate(f api.Frame) {
	if f.Stream == 0 {
		if c.turns.Grant(0, f.Inc) == api.ErrRange {
			c.fail(api.FlowControlError)
		}
		return
	}
	x, ok := c.living(f)
	if x == nil || !ok {
		return
	}
	_, do, code := c.step(x, f)
	if do != stream.Takes {
		c.obey(x, do, code)
		return
	}
	if c.turns.Grant(x.id, f.Inc) == api.ErrRange {
		c.reset(x, api.FlowControlError)
	}
}

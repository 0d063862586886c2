package stack

import (
	"slices"

	"weighbridge/api"
	"weighbridge/cache"
	"weighbridge/request"
	"weighbridge/span"
)

// serve all clients that wait, as far as that can be done now.
func (s *Stack) serve() {
	for i := range api.Clients {
		c := &s.clients[i]
		switch c.kind {
		case api.Read:
			s.serveRead(c)
		case api.Write:
			s.serveWrite(c)
		case api.Sync:
			s.serveSync(c)
		}
	}
}

func (s *Stack) serveRead(c *client) {
	b, ok := cache.Get(s.hand, c.at)
	if ok {
		s.uses++
		s.hand = cache.Use(s.hand, c.at, s.uses)
		c.answer(b.Data, nil)
		return
	}
	// A sector that is held is on its way, or will be free; if there is no room, it is asked for when all are served next.
	if held := s.held(); !held(c.at) {
		s.askQueue(c.at, false)
	}
}

func (s *Stack) serveWrite(c *client) {
	if s.dead {
		c.answer("", api.ErrDead)
		return
	}
	if s.Dirty() >= api.Hard && !s.isDirty(c.at) {
		return
	}
	s.uses++ // also if there is no room
	more, err := cache.Put(s.hand, api.Buf{At: c.at, Data: c.data, Dirty: true, Used: s.uses}, s.held())
	if err != nil {
		return
	}
	s.hand = more
	c.answer("", nil)
}

func (s *Stack) serveSync(c *client) {
	if s.dead {
		c.answer("", api.ErrDead)
		return
	}
	// Once it was seen clean it is waited for no more, even if it is written again ahead of the others' end.
	c.left = slices.DeleteFunc(c.left, func(at int) bool { return !s.isDirty(at) })
	if len(c.left) > 0 {
		return
	}
	s.device.Flush()
	c.answer("", nil)
}

// wentWell: a request did: what it wrote is clean, what it read is at hand, and answered.
func (s *Stack) wentWell(r api.Result) {
	if r.Req.Write {
		// What was written is told as what was read is: a sector's part.
		r.Data = r.Req.Data
	}
	// Over the sectors that there are, not over the span's: so it ends, whatever the span says.
	for at := range api.Sectors {
		data, ok := request.Part(r, at)
		switch {
		case !ok:
		case r.Req.Write:
			s.hand = cache.Clean(s.hand, at, data)
		default:
			s.wasRead(at, data)
		}
	}
}

// wasRead: a sector was; what is at hand of it is newer.
func (s *Stack) wasRead(at int, data string) {
	if _, ok := cache.Get(s.hand, at); ok {
		return
	}
	// Without room its readers are answered all the same: else they might wait for ever.
	if more, err := cache.Put(s.hand, api.Buf{At: at, Data: data, Used: s.uses + 1}, s.held()); err == nil {
		s.hand = more
		s.uses++
	}
	s.answerReaders(api.Span{From: at, Many: 1}, data, nil)
}

// answerReaders: each client that waits to read one of these sectors.
func (s *Stack) answerReaders(of api.Span, data string, err error) {
	for i := range api.Clients {
		if c := &s.clients[i]; c.kind == api.Read && span.Has(of, c.at) {
			c.answer(data, err)
		}
	}
}

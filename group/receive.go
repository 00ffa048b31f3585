package group

import (
	"quorate/api"
	"quorate/wire"
)

func (s *stack) receive(b []byte) api.Errno {
	p, e := wire.Decode(b)
	if e != api.OK {
		return e
	}
	if e := s.isForMe(p.Head); e != api.OK {
		return e
	}
	takers := [...]func(api.Packet) api.Errno{
		api.KindBeat:    s.takeBeat,
		api.KindPropose: s.takePropose,
		api.KindFlush:   s.takeFlush,
		api.KindStable:  s.takeStable,
		api.KindFrame:   s.takeFrame,
		api.KindAck:     s.takeAck,
		api.KindForward: s.takeForward,
	}
	return takers[p.Kind](p)
}

// isForMe says why a packet is none for this node, or none from a node as this one knows it.
func (s *stack) isForMe(h api.Head) api.Errno {
	switch {
	case h.Dst != s.self || h.DstInc != 0 && h.DstInc != s.inc:
		return api.ErrMisled
	case h.Src >= s.nodes:
		return api.ErrStranger
	case h.Kind == api.KindBeat: // by beats alone a new incarnation gets known
		return api.OK
	case h.SrcInc < s.Known(h.Src):
		return api.ErrOld
	case h.SrcInc > s.Known(h.Src):
		return api.ErrStranger
	}
	return api.OK
}

// isInView says why a packet is none of the present view.
func (s *stack) isInView(h api.Head) api.Errno {
	if s.Order == nil {
		return api.ErrView
	}
	if s.blocked() {
		return api.ErrFrozen
	}
	switch s.incOf(h.Src) {
	case 0:
		return api.ErrSender
	case h.SrcInc:
		return api.OK
	}
	return api.ErrStranger
}

// takeBeat does not go on: what a beat changes is looked at in ticks alone.
func (s *stack) takeBeat(p api.Packet) api.Errno { return s.Heard(p.Src, p.SrcInc, p.Beat) }

func (s *stack) takePropose(p api.Packet) api.Errno {
	begins, e := s.Agent.Take(p.Src, p.SrcInc, p.Propose)
	if e == api.ErrSpent {
		s.halt()
		return api.ErrHalted
	}
	if e != api.OK {
		return e
	}
	if begins {
		s.beginChange()
	}
	return s.goOn()
}

func (s *stack) takeFlush(p api.Packet) api.Errno {
	if e := s.Store.Take(p.Src, p.SrcInc, p.Flush); e != api.OK {
		return e
	}
	return s.goOn()
}

func (s *stack) takeForward(p api.Packet) api.Errno {
	if e := s.Add(p.Forward); e != api.OK {
		return e
	}
	return s.goOn()
}

func (s *stack) takeStable(p api.Packet) api.Errno {
	if e := s.isInView(p.Head); e != api.OK {
		return e
	}
	if e := s.Hear(p.Src, p.Stable); e != api.OK {
		return e
	}
	return s.goOn()
}

func (s *stack) takeAck(p api.Packet) api.Errno {
	if e := s.isInView(p.Head); e != api.OK {
		return e
	}
	if e := s.Acked(p.Src, p.Ack); e != api.OK {
		return e
	}
	return s.goOn()
}

func (s *stack) takeFrame(p api.Packet) api.Errno {
	if e := s.isInView(p.Head); e != api.OK {
		return e
	}
	bodies, e := s.Mux.Take(p.Src, p.Frame)
	if e != api.OK {
		return e
	}
	first := api.OK
	for _, b := range bodies {
		if e := s.placeItem(p.Src, b); first == api.OK {
			first = e
		}
	}
	s.goOn()
	return first
}

// placeItem takes what came out of a stream.
func (s *stack) placeItem(src int, b []byte) api.Errno {
	it, e := wire.DecodeItem(b)
	if e != api.OK {
		return e
	}
	return s.Place(src, it)
}

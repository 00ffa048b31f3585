package group

import (
	"slices"

	"quorate/api"
	"quorate/flush"
	"quorate/wire"
)

func (s *stack) tick() ([]api.Out, api.Errno) {
	s.Tick()
	begins, e := s.Agent.Estimate(s.Detector.Estimate())
	if e == api.ErrSpent {
		s.halt()
		return nil, api.ErrHalted
	}
	if begins {
		s.beginChange()
	}
	if e := s.goOn(); e != api.OK {
		return nil, e
	}
	return s.packets(), api.OK
}

// packets are those that are due to the other nodes.
func (s *stack) packets() []api.Out {
	var outs []api.Out
	end := s.forwarded()
	for q := range s.nodes {
		if q != s.self {
			m := mail{head: api.Head{Src: s.self, SrcInc: s.inc, Dst: q, DstInc: s.Known(q)}, outs: outs}
			s.write(&m, end)
			outs = m.outs
		}
	}
	return outs
}

// mail is what is written to one node, behind what was written to others.
type mail struct {
	head api.Head
	outs []api.Out
}

// put adds a packet: its head is the mail's, and one that can't go over the network is left out.
func (m *mail) put(kind int, p api.Packet) {
	p.Head = m.head
	p.Kind = kind
	if kind == api.KindBeat {
		p.DstInc = 0 // for whatever incarnation is there
	}
	if b, e := wire.Encode(p); e == api.OK {
		m.outs = append(m.outs, api.Out{Dst: p.Dst, Bytes: b})
	}
}

// write puts all that is due to one node.
func (s *stack) write(m *mail, end ended) {
	m.put(api.KindBeat, api.Packet{Beat: s.Beat()})
	if s.isLate(m.head.Dst) {
		s.writeChange(m, end)
	}
	if !s.blocked() && s.incOf(m.head.Dst) > 0 {
		s.writeView(m)
	}
}

// isLate tells whether node q may still need what leads to this node's view: it was not seen there yet.
func (s *stack) isLate(q int) bool { return s.blocked() || !s.Seen(q) }

// writeChange puts what leads from one view to the next.
func (s *stack) writeChange(m *mail, end ended) {
	q := m.head.Dst
	p := s.Proposal()
	if p.Set[q] > 0 {
		m.put(api.KindPropose, api.Packet{Propose: p})
	}
	if f, due := s.contentFor(q, p.Set[q]); due {
		m.put(api.KindFlush, api.Packet{Flush: f})
	}
	if msgs := end.owed(s.self, q); len(msgs) > 0 {
		m.put(api.KindForward, api.Packet{Forward: api.Forward{Prev: end.all[0].Prev, Msgs: msgs}})
	}
}

// contentFor is what node q, proposed in the incarnation inc, is told of the view that ends or has ended.
func (s *stack) contentFor(q, inc int) (api.Flush, bool) {
	if s.Order == nil {
		return api.Flush{}, false
	}
	if s.blocked() {
		return s.Content(s.nodes), inc > 0 && inc == s.incOf(q)
	}
	return s.past.contentOf(s.self), slices.Contains(s.past.who, q)
}

// contentOf is what node p has of the view (nothing, if it is not among those who ended it).
func (e ended) contentOf(p int) api.Flush {
	if i := slices.Index(e.who, p); i >= 0 {
		return e.all[i]
	}
	return api.Flush{}
}

// forwarded is the view of which messages are forwarded: the one that all now agree to leave, or the one that was left.
func (s *stack) forwarded() ended {
	if !s.blocked() {
		return s.past
	}
	w, trans, agreed := s.Agreed()
	if !agreed {
		return ended{}
	}
	end, _ := s.ending(w, trans)
	return end
}

// owed are the messages that self forwards to q.
func (e ended) owed(self, q int) []api.Data {
	if !slices.Contains(e.who, q) {
		return nil
	}
	duty, _ := flush.Duty(self, q, e.who, e.all) // contents that contradict one another oblige to nothing
	var list []api.Data
	for _, d := range e.messages {
		if slices.Contains(duty, api.Slot{Sender: d.Sender, Seq: d.Seq}) {
			list = append(list, d)
		}
	}
	return list
}

// writeView puts what a member of the present view is told in it.
func (s *stack) writeView(m *mail) {
	q := m.head.Dst
	m.put(api.KindStable, api.Packet{Stable: s.Told()})
	for _, f := range s.Frames(q) {
		m.put(api.KindFrame, api.Packet{Frame: f})
	}
	if a, owed := s.Owed(q); owed {
		m.put(api.KindAck, api.Packet{Ack: a})
	}
}

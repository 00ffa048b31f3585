package link

import "quorate/api"

// Take takes a frame of a peer: the pieces that are next, in their order.
func (m *Mux) Take(peer int, f api.Frame) ([][]byte, api.Errno) {
	p := m.peer(peer)
	if p == nil {
		return nil, api.ErrPeer
	}
	if !within(f.Seq, 1, api.MaxCount) || !canBeBody(f.Body) {
		return nil, api.ErrArg
	}
	if f.Tag != m.tag {
		return nil, api.ErrTag
	}
	if f.Seq > p.in.passed+m.window {
		return nil, api.ErrFar
	}
	p.owed = true
	if f.Seq <= p.in.passed || p.in.has(f.Seq) {
		return nil, api.OK
	}
	p.in.put(f.Seq, copyBytes(f.Body))
	bodies := next(&p.in, m.window)
	p.in.pass(p.in.passed + len(bodies))
	return bodies, api.OK
}

// Owed is the acknowledgement that a peer is to be told; false: none is owed.
func (m *Mux) Owed(peer int) (api.Ack, bool) {
	p := m.peer(peer)
	if p == nil || !p.owed {
		return api.Ack{}, false
	}
	p.owed = false
	return api.Ack{Tag: m.tag, Upto: p.in.passed}, true
}

// Got is the number up to which all pieces of a peer have come.
func (m *Mux) Got(peer int) int {
	p := m.peer(peer)
	if p == nil {
		return 0
	}
	return p.in.passed
}

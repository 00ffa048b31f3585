package link

import "quorate/api"

// waiting is how many pieces are kept for sending.
func (p *ends) waiting() int { return p.sent - p.out.passed }

// Push puts a piece into the stream to a peer.
func (m *Mux) Push(peer int, body []byte) api.Errno {
	p := m.peer(peer)
	if p == nil {
		return api.ErrPeer
	}
	if !canBeBody(body) {
		return api.ErrArg
	}
	if p.waiting() >= m.room {
		return api.ErrFull
	}
	p.sent++
	p.out.put(p.sent, copyBytes(body))
	return api.OK
}

// Room is how many pieces more the stream to a peer takes.
func (m *Mux) Room(peer int) int {
	p := m.peer(peer)
	if p == nil {
		return 0
	}
	return m.room - p.waiting()
}

// Sent is the number of the last piece that was pushed to a peer.
func (m *Mux) Sent(peer int) int {
	p := m.peer(peer)
	if p == nil {
		return 0
	}
	return p.sent
}

// Waiting is how many pieces to a peer are not acknowledged.
func (m *Mux) Waiting(peer int) int {
	p := m.peer(peer)
	if p == nil {
		return 0
	}
	return p.waiting()
}

// Frames lists what is to be sent to a peer now.
func (m *Mux) Frames(peer int) []api.Frame {
	p := m.peer(peer)
	if p == nil {
		return nil
	}
	bodies := next(&p.out, m.window)
	frames := make([]api.Frame, len(bodies))
	for k, body := range bodies {
		frames[k] = api.Frame{Tag: m.tag, Seq: p.out.passed + k + 1, Body: copyBytes(body)}
	}
	return frames
}

// Acked takes a peer's acknowledgement.
func (m *Mux) Acked(peer int, a api.Ack) api.Errno {
	p := m.peer(peer)
	if p == nil {
		return api.ErrPeer
	}
	if !within(a.Upto, 0, api.MaxCount) {
		return api.ErrArg
	}
	if a.Tag != m.tag {
		return api.ErrTag
	}
	if a.Upto > p.out.passed+min(m.window, p.waiting()) {
		return api.ErrFar
	}
	p.out.pass(a.Upto)
	return api.OK
}

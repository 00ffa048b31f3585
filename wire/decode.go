package wire

import "quorate/api"

// Decode reads a packet's bytes.
func Decode(b []byte) (p api.Packet, e api.Errno) {
	defer func() {
		if x := recover(); x != nil {
			p, e = api.Packet{}, reason(x)
		}
	}()
	r := openPacket(b)
	p = r.packet(int(b[kindPlace]))
	r.end()
	return p, api.OK
}

// openPacket looks at what encloses a packet's counts, and makes the reader of these.
func openPacket(b []byte) *reader {
	switch {
	case len(b) > api.MaxPacket:
		panic(api.ErrLong)
	case len(b) < leastSize:
		panic(api.ErrShort)
	case string(b[:len(mark)]) != mark:
		panic(api.ErrMagic)
	}
	ahead := b[:len(b)-sumSize]
	if toldSum(b) != Sum(ahead) {
		panic(api.ErrSum)
	}
	if !within(int(b[kindPlace]), api.KindBeat, api.KindForward) {
		panic(api.ErrKind)
	}
	return &reader{text: ahead, at: headPlace}
}

func (r *reader) packet(kind int) api.Packet {
	var p api.Packet
	p.Kind = kind
	p.Src = r.node()
	p.SrcInc = r.count(1, api.MaxCount)
	p.Dst = r.node()
	if p.Dst == p.Src {
		panic(api.ErrPacket)
	}
	p.DstInc = r.count(leastDstInc(kind), api.MaxCount)
	switch kind {
	case api.KindBeat:
		p.Beat = r.beat()
	case api.KindPropose:
		p.Propose = r.propose()
	case api.KindFlush:
		p.Flush = r.flush()
	case api.KindStable:
		p.Stable = r.stable()
	case api.KindFrame:
		p.Frame = r.frame()
	case api.KindAck:
		p.Ack = r.ack()
	case api.KindForward:
		p.Forward = r.forward()
	}
	return p
}

func (r *reader) beat() api.Beat {
	var b api.Beat
	b.Tick = r.count(0, api.MaxCount)
	b.Hears = r.nodeList()
	return b
}

func (r *reader) propose() api.Propose {
	var p api.Propose
	p.Set = r.nodeList()
	p.Cid = r.count(1, api.MaxCount)
	p.Rev = r.count(1, api.MaxCount)
	p.Top = r.count(0, api.MaxCount)
	p.Prev = r.idOrNone()
	p.Vec = r.vec(p.Set)
	return p
}

func (r *reader) flush() api.Flush {
	var f api.Flush
	f.Prev = r.id()
	f.Base = r.count(0, api.MaxCount)
	for range r.count(0, api.MaxHeld) {
		f.Slots = append(f.Slots, r.slot())
	}
	f.Have = r.nodeList()
	return f
}

func (r *reader) stable() api.Stable {
	var s api.Stable
	s.View = r.id()
	s.Done = r.count(0, api.MaxCount)
	s.Prefix = r.count(0, s.Done)
	return s
}

func (r *reader) frame() api.Frame {
	var f api.Frame
	f.Tag = r.id()
	f.Seq = r.count(1, api.MaxCount)
	f.Body = r.bytes(1, api.MaxItem)
	return f
}

func (r *reader) ack() api.Ack {
	var a api.Ack
	a.Tag = r.id()
	a.Upto = r.count(0, api.MaxCount)
	return a
}

func (r *reader) forward() api.Forward {
	var f api.Forward
	f.Prev = r.id()
	ahead := api.Data{}
	for range r.count(1, api.MaxHeld) {
		ahead = r.data(ahead)
		f.Msgs = append(f.Msgs, ahead)
	}
	return f
}

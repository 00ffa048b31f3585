package node_test

import (
	"math/rand"
	"slices"

	"quorate/api"
	"quorate/frag"
	"quorate/wire"
)

// altered: bytes that are damaged, or a packet's with other numbers in it and the right sum.
func altered(r *rand.Rand, b []byte, nodes int) []byte {
	if r.Intn(4) == 0 {
		return damaged(r, b)
	}
	p, e := wire.Decode(b)
	if e != api.OK {
		return b
	}
	for range 1 + r.Intn(3) {
		alter(r, &p, nodes)
	}
	if other, e := wire.Encode(p); e == api.OK {
		return other
	}
	return b
}

func damaged(r *rand.Rand, b []byte) []byte {
	b = slices.Clone(b)
	if len(b) == 0 {
		return []byte{byte(r.Intn(256))}
	}
	switch r.Intn(3) {
	case 0:
		return b[:r.Intn(len(b))]
	case 1:
		return append(b, byte(r.Intn(256)))
	}
	b[r.Intn(len(b))] ^= 1 << r.Intn(8)
	return b
}

// nudge: a number near this one, or one at an end.
func nudge(r *rand.Rand, n *int) {
	switch r.Intn(6) {
	case 0:
		*n = 0
	case 1:
		*n = api.MaxCount - r.Intn(2)
	case 2:
		*n = r.Intn(20)
	case 3, 4:
		*n = min(api.MaxCount, *n+1)
	default:
		*n = max(0, *n-1)
	}
}

func nudgeOne(r *rand.Rand, l []int) {
	if len(l) > 0 {
		nudge(r, &l[r.Intn(len(l))])
	}
}

func nudgeID(r *rand.Rand, id *api.ViewID) {
	nudge(r, []*int{&id.Epoch, &id.Lead, &id.Inc, &id.Cid}[r.Intn(4)])
}

// alter changes something in a packet; what comes out may be none.
func alter(r *rand.Rand, p *api.Packet, nodes int) {
	if r.Intn(6) == 0 {
		nudge(r, []*int{&p.Src, &p.SrcInc, &p.Dst, &p.DstInc}[r.Intn(4)])
		return
	}
	switch p.Kind {
	case api.KindBeat:
		nudge(r, &p.Beat.Tick)
		nudgeOne(r, p.Beat.Hears)
		if r.Intn(4) == 0 {
			p.Beat.Hears = append(p.Beat.Hears, 1)
		}
	case api.KindPropose:
		alterPropose(r, &p.Propose)
	case api.KindFlush:
		alterFlush(r, &p.Flush, nodes)
	case api.KindStable:
		alterNumber(r, &p.Stable.View, &p.Stable.Done, &p.Stable.Prefix)
	case api.KindAck:
		alterNumber(r, &p.Ack.Tag, &p.Ack.Upto)
	case api.KindFrame:
		alterFrame(r, &p.Frame)
	case api.KindForward:
		d := &p.Forward.Msgs[r.Intn(len(p.Forward.Msgs))]
		alterNumber(r, &p.Forward.Prev, &d.Sender, &d.Seq, &d.Stable)
		if r.Intn(3) == 0 {
			d.Body = []byte("other")
		}
	}
}

func alterNumber(r *rand.Rand, id *api.ViewID, numbers ...*int) {
	if r.Intn(5) == 0 {
		nudgeID(r, id)
		return
	}
	nudge(r, numbers[r.Intn(len(numbers))])
}

func alterPropose(r *rand.Rand, p *api.Propose) {
	switch r.Intn(8) {
	case 0:
		nudgeOne(r, p.Set)
	case 1:
		nudgeOne(r, p.Vec)
	case 2:
		p.Prev = api.ViewID{}
	case 3:
		nudgeID(r, &p.Prev)
	case 4: // a later change of the same node
		p.Cid = min(api.MaxCount, p.Cid+1)
		p.Rev++
		for i, n := range p.Vec {
			if n == p.Cid-1 {
				p.Vec[i] = p.Cid
			}
		}
	default:
		nudge(r, []*int{&p.Cid, &p.Rev, &p.Top, &p.Rev}[r.Intn(4)])
	}
}

func alterFlush(r *rand.Rand, f *api.Flush, nodes int) {
	switch r.Intn(6) {
	case 0:
		nudge(r, &f.Base)
	case 1, 2:
		nudgeOne(r, f.Have)
	case 3:
		f.Slots = append(f.Slots, api.Slot{Sender: r.Intn(nodes), Seq: 1 + r.Intn(9)})
	case 4:
		if len(f.Slots) > 0 {
			s := &f.Slots[r.Intn(len(f.Slots))]
			nudge(r, []*int{&s.Sender, &s.Seq}[r.Intn(2)])
		}
	default:
		nudgeID(r, &f.Prev)
	}
}

// alterFrame changes the frame, or the item in it.
func alterFrame(r *rand.Rand, f *api.Frame) {
	it, e := wire.DecodeItem(f.Body)
	if r.Intn(3) == 0 || e != api.OK {
		alterNumber(r, &f.Tag, &f.Seq)
		if r.Intn(3) == 0 {
			f.Body = f.Body[:r.Intn(len(f.Body)+1)]
		}
		return
	}
	if it.Kind == api.ItemData {
		if r.Intn(3) == 0 {
			nudge(r, []*int{&it.Data.Sender, &it.Data.Seq, &it.Data.Stable}[r.Intn(3)])
		}
		switch {
		case r.Intn(2) == 0:
			it.Data.Body = forged(r)
		case r.Intn(2) == 0 && len(it.Data.Body) > 0:
			it.Data.Body[r.Intn(len(it.Data.Body))]++
		}
	} else {
		nudge(r, []*int{&it.Pos, &it.Stable, &it.Slot.Sender, &it.Slot.Seq}[r.Intn(4)])
	}
	if b, e := wire.EncodeItem(it); e == api.OK {
		f.Body = b
	}
}

// forged is the one chunk of a blob that comes out whole: one of a replica, or something like it.
func forged(r *rand.Rand) []byte {
	c := someCommand(r)
	c.Client, c.Inc, c.Req = r.Intn(4), 1+r.Intn(3), 1+r.Intn(9)
	number := []int{0, 1, 2, 5, api.MaxCount}[r.Intn(5)]
	blob := [][]byte{
		nil, {0}, {1}, {2}, {1, 1}, {1, 2}, state(number), command(number, c), command(r.Intn(4), c),
		join([]byte{1, 1}, logText(r.Intn(4), number, []byte(emptyShot), c)),
	}[r.Intn(10)]
	if r.Intn(3) == 0 {
		blob = damaged(r, blob)
	}
	l, _ := frag.Split(blob)
	return l[0]
}

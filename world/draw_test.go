package world_test

import (
	"math/rand"
	"slices"
	"testing"

	"quorate/api"
	"quorate/wire"
)

// drawnConfig: up to five nodes, now and then with little room.
func drawnConfig(r *rand.Rand) api.Config {
	c := config(1 + r.Intn(5))
	c.Window = 1 + r.Intn(5)
	c.Cap = 2 + r.Intn(7)
	c.Base, c.Step = 1+r.Intn(min(3, c.Cap)), 1+r.Intn(c.Cap)
	c.Room = 20000
	c.Floor = []int{0, 1, 2, 1 << 61}[r.Intn(4)]
	if r.Intn(3) == 0 {
		for p := range c.Votes {
			c.Votes[p] = r.Intn(4)
		}
		c.Votes[r.Intn(c.Nodes)] = 1
	}
	return c
}

// someCommand is mostly a valid one.
func someCommand(r *rand.Rand) api.Command {
	key := string(rune('a' + r.Intn(6)))
	return []api.Command{
		{Op: api.OpSet, Key: key, Val: string(rune('A' + r.Intn(26)))}, {Op: api.OpGet, Key: key}, {Op: api.OpAdd, Key: key, Val: "7"}, {Op: api.OpDel, Key: key},
		{Op: api.OpCas, Key: key, Val: "v", Old: "w"}, {Op: api.OpLock, Key: key}, {Op: api.OpUnlock, Key: key}, {Op: api.OpFence, Key: key, Val: "1"},
		{Op: api.OpEnd, Val: "1"}, {Op: api.OpGet}, {Op: api.OpSet, Key: "12345678", Val: "87654321"}, {Op: api.OpSet, Key: "k", Val: "too long for it"},
	}[r.Intn(12)]
}

// ask: a node's clients want something.
func ask(r *rand.Rand, p int) api.Event {
	if r.Intn(3) > 0 {
		return api.Event{Kind: api.EvDo, A: p, Cmd: someCommand(r)}
	}
	b := make([]byte, []int{0, 1, 20, 300, 1200, 3999, 4000}[r.Intn(7)])
	r.Read(b)
	return api.Event{Kind: api.EvSend, A: p, Body: b}
}

// placed: something happens to a packet on its way.
func placed(r *rand.Rand) api.Event {
	e := api.Event{Kind: []int{api.EvDrop, api.EvDup, api.EvHold, api.EvNow}[r.Intn(4)], A: r.Intn(1 + r.Intn(80))}
	if e.Kind == api.EvHold {
		e.N = 1 + r.Intn(api.MaxDelay)
	}
	return e
}

// disturb: something happens to paths, to packets, or to nodes.
func disturb(r *rand.Rand, nodes int) api.Event {
	p := r.Intn(nodes)
	q := (p + 1 + r.Intn(max(1, nodes-1))) % nodes
	sides := make([]int, nodes)
	kind := r.Intn(20)
	if p == q { // there is no path
		kind = 9 + r.Intn(11)
	}
	switch kind {
	case 0, 1:
		return api.Event{Kind: api.EvCut, A: p, B: q}
	case 2, 3, 4:
		return api.Event{Kind: api.EvHeal, A: p, B: q}
	case 5:
		return api.Event{Kind: api.EvDelay, A: p, B: q, N: 1 + r.Intn(4)}
	case 6:
		for i := range sides {
			sides[i] = r.Intn(2)
		}
		return api.Event{Kind: api.EvSplit, Sides: sides}
	case 7, 8:
		return api.Event{Kind: api.EvSplit, Sides: sides}
	case 9, 10, 11, 12:
		return placed(r)
	case 13:
		return api.Event{Kind: api.EvTick, A: p}
	case 14:
		return []api.Event{{Kind: api.EvCrash, A: p}, {Kind: api.EvLeave, A: p}, {Kind: api.EvNoop}}[r.Intn(3)]
	case 15:
		return api.Event{Kind: api.EvTear, A: p, N: []int{0, r.Intn(20), r.Intn(100), 100000}[r.Intn(4)]}
	default:
		return api.Event{Kind: api.EvRestart, A: p}
	}
}

// live is so many spans of time: each begins with disturbances, and has quieter rounds then.
func live(r *rand.Rand, nodes, spans int) []api.Event {
	var l []api.Event
	for range spans {
		for range r.Intn(8) {
			l = append(l, disturb(r, nodes))
		}
		for range 4 + r.Intn(16) {
			l = append(l, api.Event{Kind: api.EvRound})
			for r.Intn(2) == 0 {
				l = append(l, ask(r, r.Intn(nodes)))
			}
			if r.Intn(6) == 0 {
				l = append(l, disturb(r, nodes))
			}
		}
	}
	return l
}

// drawn is a script without flips, and with nothing put in.
func drawn(seed int64, spans int) (*rand.Rand, api.Script) {
	r := rand.New(rand.NewSource(seed))
	c := drawnConfig(r)
	return r, api.Script{Config: c, Events: live(r, c.Nodes, spans)}
}

// nudge: a number near this one, or one at an end.
func nudge(r *rand.Rand, n *int) {
	switch r.Intn(6) {
	case 0:
		*n = 0
	case 1:
		*n = api.MaxCount - r.Intn(2)
	case 2:
		*n = r.Intn(20)
	case 3, 4:
		*n = min(api.MaxCount, *n+1)
	default:
		*n = max(0, *n-1)
	}
}

// numbers are those of a packet that can be others.
func numbers(p *api.Packet) []*int {
	l := []*int{&p.Src, &p.SrcInc, &p.Dst, &p.DstInc}
	id := func(v *api.ViewID) { l = append(l, &v.Epoch, &v.Lead, &v.Inc, &v.Cid) }
	list := func(n []int) {
		for i := range n {
			l = append(l, &n[i])
		}
	}
	switch p.Kind {
	case api.KindBeat:
		l = append(l, &p.Beat.Tick)
		list(p.Beat.Hears)
	case api.KindPropose:
		l = append(l, &p.Propose.Cid, &p.Propose.Rev, &p.Propose.Top)
		list(p.Propose.Set)
		list(p.Propose.Vec)
		id(&p.Propose.Prev)
	case api.KindFlush:
		l = append(l, &p.Flush.Base)
		list(p.Flush.Have)
		id(&p.Flush.Prev)
	case api.KindStable:
		l = append(l, &p.Stable.Done, &p.Stable.Prefix)
		id(&p.Stable.View)
	case api.KindFrame:
		l = append(l, &p.Frame.Seq)
		id(&p.Frame.Tag)
	case api.KindAck:
		l = append(l, &p.Ack.Upto)
		id(&p.Ack.Tag)
	}
	return l
}

// altered: bytes that are damaged, or a packet's with other numbers in it and the right sum.
func altered(r *rand.Rand, b []byte) []byte {
	b = slices.Clone(b)
	p, e := wire.Decode(b)
	if e != api.OK || r.Intn(6) == 0 {
		return b[:r.Intn(len(b)+1)]
	}
	for range r.Intn(3) {
		l := numbers(&p)
		nudge(r, l[r.Intn(len(l))])
	}
	if p.Kind == api.KindFrame && len(p.Frame.Body) > 0 && r.Intn(2) == 0 {
		p.Frame.Body[r.Intn(len(p.Frame.Body))]++
	}
	if other, e := wire.Encode(p); e == api.OK {
		return other
	}
	return b
}

// forged is a script with flips, and with packets put in that are like those that it has.
func forged(t testing.TB, r *rand.Rand, s api.Script) api.Script {
	t.Helper()
	m := modelOf(t, s.Config)
	var pool []api.Flight
	var l []api.Event
	m.ahead = func() {
		if f := m.net.Flights(); len(f) > 0 && r.Intn(3) == 0 {
			pool = append(pool, f[r.Intn(len(f))])
		}
		for len(pool) > 0 && r.Intn(3) == 0 {
			f := pool[r.Intn(len(pool))]
			l = append(l, api.Event{Kind: api.EvInject, A: f.Src, B: f.Dst, Body: altered(r, f.Bytes)})
		}
		if r.Intn(8) == 0 {
			l = append(l, api.Event{Kind: api.EvFlip, A: r.Intn(20), N: r.Intn(400)})
		}
		l = append(l, s.Events[m.at-1])
	}
	m.play(s.Events)
	return changed(s, l[:min(len(l), api.MaxEvents)])
}

// strange are events that no text tells.
func strange(r *rand.Rand, e api.Event) api.Event {
	for range 1 + r.Intn(2) {
		n := []*int{&e.Kind, &e.A, &e.B, &e.N, &e.Cmd.Op, &e.Cmd.Client, &e.Cmd.Inc, &e.Cmd.Req}[r.Intn(8)]
		*n = slices.Concat(far(), []int{0, 1, 16, 17, 4000, api.MaxCount, api.MaxNodes, api.MaxDelay})[r.Intn(18)]
	}
	switch r.Intn(5) {
	case 0:
		e.Sides = append(slices.Clone(e.Sides), far()[r.Intn(10)])
	case 1:
		e.Body = make([]byte, []int{api.MaxBlob + 1, api.MaxPacket, api.MaxPacket + 1}[r.Intn(3)])
	case 2:
		e.Cmd.Key = "\x00\xff, which is far too long a key"
	}
	return e
}

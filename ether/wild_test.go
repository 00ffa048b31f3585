package ether_test

import (
	"math/rand"
	"slices"
	"testing"

	"quorate/api"
	"quorate/ether"
)

// model is the chapter's section 3.1 as plain lists: what a network tells, and its next number.
type model struct {
	seen
	nodes, room, next int
}

func newModel(nodes, room int) *model {
	m := &model{nodes: nodes, room: room, next: 1}
	for p := range nodes {
		m.up[p], m.inc[p] = true, 1
		for q := range nodes {
			m.open[p][q] = p != q
			if p != q {
				m.delay[p][q] = 1
			}
		}
	}
	return m
}

func (m *model) isNode(p int) bool    { return p >= 0 && p < m.nodes }
func (m *model) isPath(p, q int) bool { return m.isNode(p) && m.isNode(q) && p != q }

func (m *model) add(f api.Flight) (int, api.Errno) {
	if len(m.flights) == m.room {
		return 0, api.ErrRoom
	}
	f.Id = m.next
	f.Bytes = slices.Clone(f.Bytes)
	m.flights = append(slices.Clone(m.flights), f)
	m.next++
	return f.Id, api.OK
}

func (m *model) post(src, dst int, b []byte, asked bool) (int, api.Errno) {
	switch {
	case !m.isPath(src, dst) || len(b) > api.MaxPacket:
		return 0, api.ErrArg
	case asked && !m.up[src]:
		return 0, api.ErrDown
	case !m.open[src][dst]:
		return 0, api.ErrCut
	}
	return m.add(api.Flight{Src: src, Dst: dst, Due: m.clock + m.delay[src][dst], Bytes: b})
}

func (m *model) round() []api.Flight {
	m.clock++
	var left, arrived []api.Flight
	for _, f := range m.flights {
		due := f.Due == m.clock
		if !due {
			left = append(left, f)
		}
		if due && m.open[f.Src][f.Dst] && m.up[f.Dst] {
			arrived = append(arrived, f)
		}
	}
	m.flights = left
	return arrived
}

func (m *model) without(k int) []api.Flight {
	return slices.Concat(m.flights[:k], m.flights[k+1:])
}

func (m *model) take(k int) (api.Flight, api.Errno) {
	if k < 0 || k >= len(m.flights) {
		return api.Flight{}, api.ErrNone
	}
	f := m.flights[k]
	switch {
	case !m.open[f.Src][f.Dst]:
		return api.Flight{}, api.ErrCut
	case !m.up[f.Dst]:
		return api.Flight{}, api.ErrDown
	}
	m.flights = m.without(k)
	return f, api.OK
}

func (m *model) do(v api.Event) api.Errno {
	switch v.Kind {
	case api.EvCut, api.EvHeal, api.EvDelay:
		if !m.isPath(v.A, v.B) || v.Kind == api.EvDelay && (v.N < 1 || v.N > 16) {
			return api.ErrArg
		}
		if v.Kind == api.EvDelay {
			m.delay[v.A][v.B] = v.N
		} else {
			m.open[v.A][v.B] = v.Kind == api.EvHeal
		}
		return api.OK
	case api.EvSplit:
		if len(v.Sides) != m.nodes || slices.Min(v.Sides) < 0 || slices.Max(v.Sides) > 15 {
			return api.ErrArg
		}
		for p := range m.nodes {
			for q := range m.nodes {
				m.open[p][q] = p != q && v.Sides[p] == v.Sides[q]
			}
		}
		return api.OK
	case api.EvInject:
		_, e := m.post(v.A, v.B, v.Body, false)
		return e
	case api.EvDrop, api.EvDup, api.EvHold, api.EvFlip:
		return m.doPacket(v)
	}
	return api.ErrArg
}

func (m *model) doPacket(v api.Event) api.Errno {
	if v.A < 0 || v.A >= len(m.flights) {
		return api.ErrNone
	}
	f := &m.flights[v.A]
	switch v.Kind {
	case api.EvDrop:
		m.flights = m.without(v.A)
	case api.EvDup:
		_, e := m.add(*f)
		return e
	case api.EvHold:
		if v.N < 1 || v.N > 16 {
			return api.ErrArg
		}
		f.Due += v.N
	case api.EvFlip:
		if v.N < 0 || v.N >= 8*len(f.Bytes) {
			return api.ErrArg
		}
		f.Bytes[v.N/8] ^= 1 << uint(v.N%8)
	}
	return api.OK
}

// number is mostly below bound, now and then just outside or far away.
func number(r *rand.Rand, bound int) int {
	switch r.Intn(12) {
	case 0:
		return r.Intn(3) - 2
	case 1:
		return bound + r.Intn(2)
	case 2:
		far := farNumbers()
		return far[r.Intn(len(far))]
	}
	return r.Intn(max(bound, 1))
}

func wildBytes(r *rand.Rand) []byte {
	size := r.Intn(4)
	if r.Intn(200) == 0 {
		size = api.MaxPacket + r.Intn(2)
	}
	b := make([]byte, size, size+r.Intn(3))
	for i := range min(size, 8) {
		b[i] = byte(r.Intn(256))
	}
	return b
}

func wildEvent(r *rand.Rand, m *model) api.Event {
	v := api.Event{Kind: api.EvCut + r.Intn(11), A: number(r, m.nodes), B: number(r, m.nodes), N: number(r, 17), Body: wildBytes(r)}
	switch v.Kind {
	case api.EvDrop, api.EvDup, api.EvHold, api.EvFlip:
		v.A = number(r, len(m.flights))
	case api.EvSplit:
		// Seldom, for a split closes nearly all of a network.
		if r.Intn(4) > 0 {
			v.Kind = api.EvHeal
		}
		for range m.nodes {
			v.Sides = append(v.Sides, r.Intn(2)*15)
		}
		if r.Intn(4) == 0 {
			v.Sides[r.Intn(m.nodes)] = number(r, 16)
		}
		if r.Intn(6) == 0 {
			v.Sides = v.Sides[1:]
		}
	case api.EvLeave:
		v.Kind = number(r, 30)
	}
	return v
}

// wildStep makes one call on the network and on the model; false, if they answer differently.
func wildStep(r *rand.Rand, n *ether.Net, m *model) bool {
	p, q := number(r, m.nodes), number(r, m.nodes)
	switch r.Intn(12) {
	case 0:
		ticks, e := n.Tick(p)
		switch {
		case !m.isNode(p):
			return ticks == 0 && e == api.ErrArg
		case !m.up[p]:
			return ticks == 0 && e == api.ErrDown
		}
		m.ticks[p]++
		return ticks == m.ticks[p] && e == api.OK
	case 1:
		e := n.Crash(p)
		switch {
		case !m.isNode(p):
			return e == api.ErrArg
		case !m.up[p]:
			return e == api.ErrDown
		}
		m.up[p] = false
		return e == api.OK
	case 2:
		inc, e := n.Restart(p)
		switch {
		case !m.isNode(p):
			return inc == 0 && e == api.ErrArg
		case m.up[p]:
			return inc == 0 && e == api.ErrUp
		}
		m.up[p], m.ticks[p] = true, 0
		m.inc[p]++
		return inc == m.inc[p] && e == api.OK
	case 3:
		k := number(r, len(m.flights))
		got, e := n.Take(k)
		want, f := m.take(k)
		return sameFlight(got, want) && e == f
	case 4:
		return sameFlights(n.Round(), m.round())
	case 5, 6, 7:
		v := wildEvent(r, m)
		return n.Do(v) == m.do(v)
	default:
		b := wildBytes(r)
		got, e := n.Post(p, q, b)
		want, f := m.post(p, q, b, true)
		return got == want && e == f
	}
}

// TestWild: P3.1 to P3.11 at calls of all kinds, right and wrong, against the model.
func TestWild(t *testing.T) {
	r := rand.New(rand.NewSource(3))
	for range 150 {
		nodes, room := 1+r.Intn(6), 1+r.Intn(12)
		n, m := made(t, nodes, room), newModel(nodes, room)
		for step := range 300 {
			if !wildStep(r, n, m) {
				t.Fatalf("P3.1 to P3.11: step %d of a network of %d answers otherwise than the model", step, nodes)
			}
			if got := look(n); !sameSeen(got, m.seen) {
				t.Fatalf("P3.1 to P3.11: behind step %d: %.500v, want %.500v", step, got, m.seen)
			}
		}
	}
}

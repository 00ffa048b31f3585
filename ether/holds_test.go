package ether_test

import (
	"math/rand"
	"testing"

	"quorate/api"
	"quorate/ether"
)

// birth: what is known of a packet from the call that put it on its way.
type birth struct {
	src, dst, due int
	bytes         string
	touched       bool // dropped, held, taken or turned
}

// history follows a network's packets by the calls alone.
type history struct {
	n       *ether.Net
	born    map[int]birth
	arrived map[int]int // by Id: in which order it arrived
}

func (h *history) post(src, dst int, b string) {
	if id, e := h.n.Post(src, dst, []byte(b)); e == api.OK {
		h.born[id] = birth{src, dst, h.n.Clock() + h.n.Delay(src, dst), b, false}
	}
}

func (h *history) touch(f api.Flight, change func(b *birth)) {
	b := h.born[f.Id]
	b.touched = true
	change(&b)
	h.born[f.Id] = b
}

// event plays an event on a packet that is on its way.
func (h *history) event(r *rand.Rand) {
	list := h.n.Flights()
	if len(list) == 0 {
		return
	}
	k := r.Intn(len(list))
	f := list[k]
	v := api.Event{Kind: []int{api.EvDrop, api.EvDup, api.EvHold, api.EvFlip}[r.Intn(4)], A: k, N: 1 + r.Intn(15)}
	if h.n.Do(v) != api.OK {
		return
	}
	switch v.Kind {
	case api.EvDrop:
		h.touch(f, func(b *birth) { b.due = -1 })
	case api.EvDup:
		list = h.n.Flights()
		twin := list[len(list)-1]
		b := h.born[f.Id]
		b.touched = true
		h.born[twin.Id] = b
	case api.EvHold:
		h.touch(f, func(b *birth) { b.due += v.N })
	case api.EvFlip:
		h.touch(f, func(b *birth) {
			turned := []byte(b.bytes)
			turned[v.N/8] ^= 1 << (v.N % 8)
			b.bytes = string(turned)
		})
	}
}

func (h *history) arrive(t *testing.T, f api.Flight) {
	t.Helper()
	b, known := h.born[f.Id]
	if !known || !sameFlight(f, flight(f.Id, b.src, b.dst, b.due, b.bytes)) {
		t.Fatalf("P3.12: %v arrived, of the birth %v", f, b)
	}
	if h.arrived[f.Id] != 0 {
		t.Fatalf("P3.12: packet %d arrived twice", f.Id)
	}
	h.arrived[f.Id] = len(h.arrived) + 1
}

// round asks ahead of it which packets must arrive.
func (h *history) round(t *testing.T) {
	t.Helper()
	clock := h.n.Clock() + 1
	awaited := map[int]bool{}
	for id, b := range h.born {
		if b.due == clock && h.arrived[id] == 0 && h.n.Open(b.src, b.dst) && h.n.Up(b.dst) {
			awaited[id] = true
		}
	}
	for _, f := range h.n.Round() {
		h.arrive(t, f)
		if !awaited[f.Id] {
			t.Fatalf("P3.13: packet %v arrived in round %d", f, clock)
		}
		delete(awaited, f.Id)
	}
	if len(awaited) > 0 {
		t.Fatalf("P3.13: the packets %v did not arrive in round %d", awaited, clock)
	}
}

func (h *history) take(t *testing.T, k int) {
	t.Helper()
	if f, e := h.n.Take(k); e == api.OK {
		h.arrive(t, f)
		h.touch(f, func(*birth) {})
	}
}

// inOrder: of two packets of one path with one delay the earlier one arrives ahead.
func (h *history) inOrder(t *testing.T, delays [][]int) {
	t.Helper()
	for a, first := range h.born {
		for b, second := range h.born {
			ordered := a < b && !first.touched && !second.touched && first.src == second.src && first.dst == second.dst
			if ordered && h.arrived[a] != 0 && h.arrived[b] != 0 && h.arrived[a] > h.arrived[b] {
				t.Fatalf("P3.14: with the delays %v packet %d arrived behind packet %d", delays, a, b)
			}
		}
	}
}

// TestHolds: P3.12 to P3.14 of networks whose delays stay as they are from the first packet on.
func TestHolds(t *testing.T) {
	r := rand.New(rand.NewSource(4))
	const nodes = 3
	for range 150 {
		h := &history{n: made(t, nodes, 8), born: map[int]birth{}, arrived: map[int]int{}}
		delays := make([][]int, nodes)
		for p := range nodes {
			for q := range nodes {
				delay := 1 + r.Intn(4)
				delays[p] = append(delays[p], delay)
				h.n.Do(api.Event{Kind: api.EvDelay, A: p, B: q, N: delay})
			}
		}
		for range 120 {
			p, q := r.Intn(nodes), r.Intn(nodes)
			switch r.Intn(16) {
			case 0:
				h.n.Crash(p)
			case 1, 2:
				h.n.Restart(p)
			case 3:
				h.n.Do(api.Event{Kind: api.EvCut, A: p, B: q})
			case 4, 5:
				h.n.Do(api.Event{Kind: api.EvHeal, A: p, B: q})
			case 6:
				h.event(r)
			case 7:
				h.take(t, r.Intn(8))
			case 8, 9, 10:
				h.round(t)
			default:
				h.post(p, q, string([]byte{byte(r.Intn(256)), 1}))
			}
		}
		for range 40 {
			h.round(t)
		}
		h.inOrder(t, delays)
	}
}

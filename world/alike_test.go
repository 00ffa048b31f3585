package world_test

import (
	"math/rand"
	"slices"
	"testing"

	"quorate/api"
	"quorate/wire"
)

// TestBeginning: P16.8.
func TestBeginning(t *testing.T) {
	for seed := range int64(25) {
		r, s := drawn(400+seed, 8)
		if seed%3 == 0 {
			s = forged(t, r, s)
		}
		all := played(t, s)
		for _, k := range []int{0, 1, r.Intn(len(s.Events)), r.Intn(len(s.Events)), len(s.Events) - 1} {
			n, _ := slices.BinarySearchFunc(all, k+1, func(m api.Mark, at int) int { return m.At - at })
			wantSame(t, "P16.8", played(t, changed(s, s.Events[:k])), all[:n])
		}
	}
}

// idle is an event that does nothing in a model as it stands.
func idle(r *rand.Rand, m *model) api.Event {
	p, q := r.Intn(m.c.Nodes), r.Intn(m.c.Nodes)
	l := []api.Event{
		{}, {Kind: 19}, {Kind: far()[r.Intn(10)]}, {Kind: api.EvTick, A: m.c.Nodes}, {Kind: api.EvSend, A: -1}, {Kind: api.EvDo, A: 99}, {Kind: api.EvTear, A: p, N: -1},
		{Kind: api.EvCut, A: p, B: p}, {Kind: api.EvHeal, A: m.c.Nodes, B: p}, {Kind: api.EvDelay, A: p, B: q, N: 17}, {Kind: api.EvSplit, Sides: make([]int, m.c.Nodes+1)},
		{Kind: api.EvDrop, A: len(m.net.Flights())}, {Kind: api.EvNow, A: -1}, {Kind: api.EvHold, A: 0, N: 0}, {Kind: api.EvFlip, A: 0, N: 1 << 30}, {Kind: api.EvDup, A: 1 << 30},
		{Kind: api.EvInject, A: p, B: p, Body: []byte("x")}, {Kind: api.EvInject, A: p, B: q, Body: make([]byte, api.MaxPacket+1)},
	}
	if p != q && m.net.Open(p, q) {
		l = append(l, api.Event{Kind: api.EvHeal, A: p, B: q}, api.Event{Kind: api.EvDelay, A: p, B: q, N: m.net.Delay(p, q)})
	} else if p != q {
		l = append(l, api.Event{Kind: api.EvCut, A: p, B: q}, api.Event{Kind: api.EvInject, A: p, B: q, Body: []byte("x")})
	}
	if m.isUp(p) {
		return append(l, api.Event{Kind: api.EvRestart, A: p})[r.Intn(len(l)+1)]
	}
	for _, kind := range []int{api.EvTick, api.EvSend, api.EvDo, api.EvLeave, api.EvCrash, api.EvTear} {
		l = append(l, api.Event{Kind: kind, A: p, Cmd: someCommand(r)})
	}
	return l[r.Intn(len(l))]
}

// TestIdle: P16.9.
func TestIdle(t *testing.T) {
	put := 0
	for seed := range int64(30) {
		r, s := drawn(500+seed, 8)
		m := modelOf(t, s.Config)
		number := make([]int, len(s.Events)+1) // of an event in the longer script
		var l []api.Event
		m.ahead = func() {
			for r.Intn(3) == 0 {
				l = append(l, idle(r, m))
				put++
			}
			l = append(l, s.Events[m.at-1])
			number[m.at] = len(l)
		}
		m.play(s.Events)
		want := renumbered(played(t, s), func(at int) int { return number[at] })
		wantSame(t, "P16.9", played(t, changed(s, l)), want)
	}
	if put < 1000 {
		t.Errorf("%d events that do nothing: the test is too weak", put)
	}
}

// without is a script without one event, of which the number is told.
func without(s api.Script, at int) api.Script {
	return changed(s, s.Events[:at-1], s.Events[at:])
}

// TestRefused: P16.10, and with it the half of P6 that a refused send changes nothing.
func TestRefused(t *testing.T) {
	t.Parallel()
	seen := map[api.Errno]int{}
	for seed := range int64(40) {
		r, s := drawn(600+seed, 8)
		all := played(t, s)
		refused := of(all, api.MarkRefuse)
		for range min(6, len(refused)) {
			m := refused[r.Intn(len(refused))]
			seen[m.Err]++
			want := slices.DeleteFunc(slices.Clone(all), func(x api.Mark) bool { return x.At == m.At })
			if len(all)-len(want) != 1 {
				t.Fatalf("P16.10: beside the refusal %+v the event made other marks", m)
			}
			want = renumbered(want, func(at int) int {
				if at > m.At {
					at--
				}
				return at
			})
			wantSame(t, "P16.10", played(t, without(s, m.At)), want)
		}
	}
	for _, e := range []api.Errno{api.ErrBlocked, api.ErrBusy, api.ErrBlob, api.ErrCommand, api.ErrIdle, api.ErrPending} {
		if seen[e] == 0 {
			t.Errorf("nothing was refused with error %d: the test is too weak", e)
		}
	}
}

// isPlaced tells whether an event names a place in the flights.
func isPlaced(e api.Event) bool {
	return slices.Contains([]int{api.EvDrop, api.EvDup, api.EvNow, api.EvHold, api.EvFlip}, e.Kind)
}

// unplaced are the events of which none names a place.
func unplaced(l []api.Event) []api.Event {
	return slices.DeleteFunc(slices.Clone(l), isPlaced)
}

// flightsAt are the packets on their way behind the first so many events.
func flightsAt(t *testing.T, s api.Script, k int) []api.Flight {
	t.Helper()
	m := modelOf(t, s.Config)
	m.play(s.Events[:k])
	return m.net.Flights()
}

// TestTurned: P16.11.
func TestTurned(t *testing.T) {
	t.Parallel()
	turned, kinds := 0, map[int]int{}
	for seed := range int64(40) {
		r, s := drawn(700+seed, 8)
		k := r.Intn(len(s.Events))
		flights := flightsAt(t, s, k)
		if len(flights) == 0 {
			continue
		}
		for range 6 {
			place := r.Intn(len(flights))
			p, _ := wire.Decode(flights[place].Bytes)
			kinds[p.Kind]++
			bit := r.Intn(8 * len(flights[place].Bytes))
			flip := []api.Event{{Kind: api.EvFlip, A: place, N: bit}}
			drop := []api.Event{{Kind: api.EvDrop, A: place}}
			rest := unplaced(s.Events[k:])
			got, want := played(t, changed(s, s.Events[:k], flip, rest)), played(t, changed(s, s.Events[:k], drop, rest))
			if !has(got, api.MarkFull) && !has(want, api.MarkFull) {
				wantSame(t, "P16.11", got, want)
				turned++
			}
		}
	}
	if turned < 100 || len(kinds) < 5 {
		t.Errorf("%d turned bits in packets of the kinds %v: the test is too weak", turned, kinds)
	}
}

// outdated tells whether a packet is to another incarnation than its Dst's, or of an older one than its Dst has heard.
func (m *model) outdated(f api.Flight) (to, from bool) {
	p, e := wire.Decode(f.Bytes)
	if e != api.OK {
		return false, false
	}
	inc := m.net.Inc(f.Dst)
	return p.DstInc != 0 && p.DstInc != inc, p.SrcInc < m.heard[[3]int{f.Dst, inc, p.Src}]
}

// lateDrop is a drop of a packet of an older incarnation, just ahead of its round.
type lateDrop struct{ at, place int }

// lateDrops finds what may be dropped in a script, and nothing changes: packets to and of older incarnations.
func lateDrops(t *testing.T, s api.Script) (to, from []lateDrop) {
	t.Helper()
	m := modelOf(t, s.Config)
	m.ahead = func() {
		if s.Events[m.at-1].Kind != api.EvRound {
			return
		}
		for place, f := range m.net.Flights() {
			if f.Due != m.net.Clock()+1 || !m.isUp(f.Dst) || !m.net.Open(f.Src, f.Dst) {
				continue
			}
			if isTo, isFrom := m.outdated(f); isTo {
				to = append(to, lateDrop{m.at, place})
			} else if isFrom {
				from = append(from, lateDrop{m.at, place})
			}
		}
	}
	m.play(s.Events)
	return to, from
}

// restless: nodes crash and come back while packets are long on their way.
func restless(r *rand.Rand, nodes int) []api.Event {
	var l []api.Event
	quiet := slices.Repeat([]api.Event{{Kind: api.EvRound}}, 3)
	for range 25 {
		p, q := r.Intn(nodes), r.Intn(nodes)
		switch r.Intn(6) {
		case 0:
			l = append(l, api.Event{Kind: api.EvDelay, A: p, B: q, N: 1 + r.Intn(6)})
		case 1:
			l = append(l, api.Event{Kind: api.EvCrash, A: p}, api.Event{Kind: api.EvRestart, A: p})
		case 2:
			l = append(l, api.Event{Kind: api.EvTear, A: p, N: r.Intn(60)}, api.Event{Kind: api.EvRestart, A: p})
		case 3: // the next incarnation's packets overtake this one's
			l = slices.Concat(l, []api.Event{{Kind: api.EvDelay, A: p, B: q, N: 8}}, quiet,
				[]api.Event{{Kind: api.EvCrash, A: p}, {Kind: api.EvRestart, A: p}, {Kind: api.EvDelay, A: p, B: q, N: 1}}, quiet)
		}
		for range 1 + r.Intn(6) {
			l = append(l, api.Event{Kind: api.EvRound}, ask(r, r.Intn(nodes)))
		}
	}
	return l
}

// wantNoLoss: a script's trace stays as it is, with some of these packets dropped: how many were.
func wantNoLoss(t *testing.T, r *rand.Rand, s api.Script, drops []lateDrop) int {
	t.Helper()
	all := played(t, s)
	n := 0
	for range min(3, len(drops)) {
		d := drops[r.Intn(len(drops))]
		drop := []api.Event{{Kind: api.EvDrop, A: d.place}}
		got := played(t, changed(s, s.Events[:d.at-1], drop, s.Events[d.at-1:]))
		want := renumbered(all, func(at int) int {
			if at >= d.at {
				at++
			}
			return at
		})
		if !has(got, api.MarkFull) && !has(want, api.MarkFull) {
			wantSame(t, "P16.12", got, want)
			n++
		}
	}
	return n
}

// TestOutdated: P16.12 and P13.
func TestOutdated(t *testing.T) {
	t.Parallel()
	to, from := 0, 0
	for seed := range int64(40) {
		r := rand.New(rand.NewSource(800 + seed))
		c := drawnConfig(r)
		c.Nodes = 2 + r.Intn(3)
		c.Votes = slices.Repeat([]int{1}, c.Nodes)
		s := api.Script{Config: c, Events: restless(r, c.Nodes)}
		dropTo, dropFrom := lateDrops(t, s)
		to += wantNoLoss(t, r, s, dropTo)
		from += wantNoLoss(t, r, s, dropFrom)
	}
	if to < 50 || from < 50 {
		t.Errorf("%d packets to, %d of older incarnations: the test is too weak", to, from)
	}
}

package bound_test

import (
	"math/rand"
	"slices"

	"quorate/api"
)

// drawnConfig: up to six nodes, with timeouts and votes of all kinds.
func drawnConfig(r *rand.Rand) api.Config {
	c := api.Config{Nodes: 1 + r.Intn(6), Window: 1 + r.Intn(8), Cap: 1 + r.Intn(12), Room: api.MaxRoom}
	if r.Intn(4) == 0 {
		c.Window = 1
	}
	if r.Intn(10) == 0 {
		c.Cap = 1 + r.Intn(api.MaxCap)
	}
	c.Base, c.Step = 1+r.Intn(min(4, c.Cap)), 1+r.Intn(c.Cap)
	if r.Intn(10) == 0 {
		c.Base = 1 + r.Intn(c.Cap)
	}
	c.Floor = []int{0, 1, 2, 1 << 61}[r.Intn(4)]
	c.Votes = slices.Repeat([]int{1}, c.Nodes)
	if r.Intn(3) == 0 {
		for p := range c.Votes {
			c.Votes[p] = r.Intn(4)
		}
		c.Votes[r.Intn(c.Nodes)] = 1
	}
	return c
}

// drawnSet is a rising list of one node or more, mostly of many.
func drawnSet(r *rand.Rand, nodes int) []int {
	if r.Intn(3) == 0 {
		return all(nodes)
	}
	out := r.Intn(nodes)
	var l []int
	for p := range nodes {
		if p != out && r.Intn(4) > 0 {
			l = append(l, p)
		}
	}
	if len(l) == 0 {
		return []int{out}
	}
	return l
}

// someCommand is mostly a valid one.
func someCommand(r *rand.Rand) api.Command {
	key := string(rune('a' + r.Intn(4)))
	return []api.Command{
		{Op: api.OpSet, Key: key, Val: string(rune('A' + r.Intn(26)))}, {Op: api.OpGet, Key: key}, {Op: api.OpAdd, Key: key, Val: "7"}, {Op: api.OpDel, Key: key},
		{Op: api.OpCas, Key: key, Val: "v", Old: "w"}, {Op: api.OpLock, Key: key}, {Op: api.OpUnlock, Key: key}, {Op: api.OpFence, Key: key, Val: "1"},
		{Op: api.OpEnd, Val: "1"}, {Op: api.OpGet}, {Op: api.OpSet, Key: "12345678", Val: "87654321"},
	}[r.Intn(11)]
}

// story is a script that is being drawn: first unrest, then a set is left alone.
type story struct {
	*rand.Rand
	c    api.Config
	set  []int
	left []int // of the nodes that are to be restarted for it
	l    []api.Event
}

func (s *story) add(kind, a, b, n int) {
	s.l = append(s.l, api.Event{Kind: kind, A: a, B: b, N: n})
	if kind == api.EvLeave {
		s.left = append(s.left, a)
	}
}

func (s *story) isIn(p int) bool { return slices.Contains(s.set, p) }

// node is any one.
func (s *story) node() int { return s.Intn(s.c.Nodes) }

// pair is a path's ends, or one node twice.
func (s *story) pair() (int, int) {
	p := s.node()
	return p, (p + 1 + s.Intn(max(1, s.c.Nodes-1))) % s.c.Nodes
}

// ask: a node's clients want something.
func (s *story) ask(p int) {
	if s.Intn(3) > 0 {
		s.l = append(s.l, api.Event{Kind: api.EvDo, A: p, Cmd: someCommand(s.Rand)})
		return
	}
	b := make([]byte, []int{0, 1, 20, 300, 1200, 4000}[s.Intn(6)])
	s.Read(b)
	s.l = append(s.l, api.Event{Kind: api.EvSend, A: p, Body: b})
}

// sides are drawn, all alike or not.
func (s *story) sides(n int) {
	l := make([]int, s.c.Nodes)
	for p := range l {
		l[p] = s.Intn(n)
	}
	s.l = append(s.l, api.Event{Kind: api.EvSplit, Sides: l})
}

// disturb: something happens to paths, to packets, or to nodes.
func (s *story) disturb() {
	p, q := s.pair()
	switch s.Intn(22) {
	case 0, 1:
		s.add(api.EvCut, p, q, 0)
	case 2, 3, 4:
		s.add(api.EvHeal, p, q, 0)
	case 5, 6:
		s.add(api.EvDelay, p, q, 1+s.Intn(api.MaxDelay))
	case 7:
		s.sides(2)
	case 8, 9:
		s.sides(1)
	case 10:
		s.add(api.EvDrop, s.Intn(1+s.Intn(80)), 0, 0)
	case 11:
		s.add(api.EvDup, s.Intn(1+s.Intn(80)), 0, 0)
	case 12:
		s.add(api.EvNow, s.Intn(1+s.Intn(80)), 0, 0)
	case 13, 14: // for long, perhaps
		place := s.Intn(1 + s.Intn(80))
		for range 1 + s.Intn(1+s.Intn(4)) {
			s.add(api.EvHold, place, 0, 1+s.Intn(api.MaxDelay))
		}
	case 15:
		s.add(api.EvTick, p, 0, 0)
	case 16:
		s.add(api.EvCrash, p, 0, 0)
	case 17:
		if s.Intn(3) == 0 {
			s.add(api.EvLeave, p, 0, 0)
		}
	case 18:
		s.add(api.EvTear, p, 0, []int{0, s.Intn(20), s.Intn(100), 100000}[s.Intn(4)])
	default:
		s.add(api.EvRestart, p, 0, 0)
	}
}

// unrest is so many spans of time: each begins with disturbances, and has quieter rounds then.
func (s *story) unrest(spans int) {
	for range spans {
		for range s.Intn(8) {
			s.disturb()
		}
		for range 1 + s.Intn(16) {
			s.add(api.EvRound, 0, 0, 0)
			for s.Intn(2) == 0 {
				s.ask(s.node())
			}
			if s.Intn(5) == 0 {
				s.disturb()
			}
		}
	}
}

// settleDown: events that leave the set alone, in any order, with rounds between them.
func (s *story) settleDown(longest int) {
	var last []api.Event
	for p := range s.c.Nodes {
		for q := range s.c.Nodes {
			if s.isIn(q) && p != q && s.isIn(p) {
				last = append(last, api.Event{Kind: api.EvHeal, A: p, B: q}, api.Event{Kind: api.EvDelay, A: p, B: q, N: 1 + s.Intn(longest)})
			} else if s.isIn(q) && p != q {
				last = append(last, api.Event{Kind: api.EvCut, A: p, B: q})
			}
		}
	}
	s.Shuffle(len(last), func(i, k int) { last[i], last[k] = last[k], last[i] })
	often := []int{1000, 3, 10}[s.Intn(3)]
	for _, p := range s.set {
		if slices.Contains(s.left, p) || s.Intn(8) == 0 {
			s.add(api.EvCrash, p, 0, 0)
		}
		s.add(api.EvRestart, p, 0, 0)
		if s.Intn(often) == 0 {
			s.add(api.EvRound, 0, 0, 0)
		}
	}
	for _, e := range last {
		s.l = append(s.l, e)
		if s.Intn(often) == 0 {
			s.add(api.EvRound, 0, 0, 0)
		}
	}
}

// outside: something happens that does not touch the set.
func (s *story) outside(longest int) {
	p, q := s.pair()
	switch {
	case p == q:
	case s.isIn(p) && s.isIn(q):
		s.add(api.EvDelay, p, q, 1+s.Intn(longest))
	case s.isIn(q):
		s.add([]int{api.EvCut, api.EvDelay}[s.Intn(2)], p, q, 1+s.Intn(api.MaxDelay))
	case s.Intn(2) == 0:
		s.add([]int{api.EvCut, api.EvHeal, api.EvDelay}[s.Intn(3)], p, q, 1+s.Intn(api.MaxDelay))
	case !s.isIn(p):
		s.add([]int{api.EvTick, api.EvCrash, api.EvRestart, api.EvTear, api.EvLeave}[s.Intn(5)], p, 0, s.Intn(50))
	default:
		l := make([]int, s.c.Nodes)
		for p := range l {
			l[p] = 3
			if !s.isIn(p) {
				l[p] = s.Intn(3)
			}
		}
		s.l = append(s.l, api.Event{Kind: api.EvSplit, Sides: l})
	}
}

// load is what clients ask behind each round.
type load struct {
	often int  // in how many of a hundred rounds something at each node
	probe bool // whether at each node one byte, right behind each round
	big   bool // long blobs, as many as are taken
	moves int  // in how many of a hundred rounds something happens that does not touch the set
}

func drawnLoad(r *rand.Rand) load {
	return load{often: []int{0, 5, 30, 100}[r.Intn(4)], probe: r.Intn(2) == 0, big: r.Intn(4) == 0, moves: []int{0, 10, 50}[r.Intn(3)]}
}

// quiet are rounds in which the set is left alone, as many as a script can have.
func (s *story) quiet(n, longest int, ld load) {
	for range n {
		s.add(api.EvRound, 0, 0, 0)
		if ld.probe {
			for _, p := range s.set {
				s.l = append(s.l, api.Event{Kind: api.EvSend, A: p, Body: []byte{1}})
			}
		}
		for _, p := range s.set {
			if s.Intn(100) < ld.often {
				s.askFor(p, ld.big)
			}
		}
		if s.Intn(100) < ld.moves {
			s.outside(longest)
		}
	}
	s.l = s.l[:min(len(s.l), api.MaxEvents)]
}

// askFor: a node's clients want something, or more than the queue takes.
func (s *story) askFor(p int, big bool) {
	if !big {
		s.ask(p)
		return
	}
	for _, n := range []int{4000, 2500} {
		s.l = append(s.l, api.Event{Kind: api.EvSend, A: p, Body: make([]byte, n)})
	}
	s.l = append(s.l, api.Event{Kind: api.EvDo, A: p, Cmd: someCommand(s.Rand)})
}

func (s *story) script() api.Script { return api.Script{Config: s.c, Events: s.l} }

package audit_test

import (
	"math/rand"
	"slices"
	"testing"

	"quorate/api"
	"quorate/world"
)

// drawnConfig: up to five nodes, with votes of all kinds.
func drawnConfig(r *rand.Rand) api.Config {
	c := api.Config{Nodes: 1 + r.Intn(5), Window: 1 + r.Intn(5), Cap: 2 + r.Intn(7), Room: 20000}
	c.Base, c.Step = 1+r.Intn(min(3, c.Cap)), 1+r.Intn(c.Cap)
	c.Floor = []int{0, 1, 2, 1 << 61}[r.Intn(4)]
	if r.Intn(4) == 0 {
		c.Room = 20 + r.Intn(200)
	}
	c.Votes = slices.Repeat([]int{1}, c.Nodes)
	if r.Intn(3) == 0 {
		for p := range c.Votes {
			c.Votes[p] = r.Intn(4)
		}
		c.Votes[r.Intn(c.Nodes)] = 1
	}
	return c
}

// someCommand is mostly a valid one.
func someCommand(r *rand.Rand) api.Command {
	key := string(rune('a' + r.Intn(4)))
	return []api.Command{
		{Op: api.OpSet, Key: key, Val: string(rune('A' + r.Intn(26)))}, {Op: api.OpGet, Key: key}, {Op: api.OpAdd, Key: key, Val: "7"}, {Op: api.OpDel, Key: key},
		{Op: api.OpCas, Key: key, Val: "v", Old: "w"}, {Op: api.OpLock, Key: key}, {Op: api.OpUnlock, Key: key}, {Op: api.OpFence, Key: key, Val: "1"},
		{Op: api.OpEnd, Val: "1"}, {Op: api.OpGet}, {Op: api.OpSet, Key: "12345678", Val: "87654321"},
	}[r.Intn(11)]
}

// ask: a node's clients want something.
func ask(r *rand.Rand, p int) api.Event {
	if r.Intn(3) > 0 {
		return api.Event{Kind: api.EvDo, A: p, Cmd: someCommand(r)}
	}
	b := make([]byte, []int{0, 1, 20, 300, 1200, 4000}[r.Intn(6)])
	r.Read(b)
	return api.Event{Kind: api.EvSend, A: p, Body: b}
}

// placed: something happens to a packet on its way.
func placed(r *rand.Rand) api.Event {
	e := api.Event{Kind: []int{api.EvDrop, api.EvDup, api.EvHold, api.EvNow}[r.Intn(4)], A: r.Intn(1 + r.Intn(80))}
	if e.Kind == api.EvHold {
		e.N = 1 + r.Intn(api.MaxDelay)
	}
	return e
}

// disturb: something happens to paths, to packets, or to nodes.
func disturb(r *rand.Rand, nodes int) api.Event {
	p := r.Intn(nodes)
	q := (p + 1 + r.Intn(max(1, nodes-1))) % nodes
	sides := make([]int, nodes)
	kind := r.Intn(20)
	if p == q { // there is no path
		kind = 9 + r.Intn(11)
	}
	switch kind {
	case 0, 1:
		return api.Event{Kind: api.EvCut, A: p, B: q}
	case 2, 3, 4:
		return api.Event{Kind: api.EvHeal, A: p, B: q}
	case 5:
		return api.Event{Kind: api.EvDelay, A: p, B: q, N: 1 + r.Intn(4)}
	case 6:
		for i := range sides {
			sides[i] = r.Intn(2)
		}
		return api.Event{Kind: api.EvSplit, Sides: sides}
	case 7, 8:
		return api.Event{Kind: api.EvSplit, Sides: sides}
	case 9, 10, 11, 12:
		return placed(r)
	case 13:
		return api.Event{Kind: api.EvTick, A: p}
	case 14:
		return []api.Event{{Kind: api.EvCrash, A: p}, {Kind: api.EvLeave, A: p}, {Kind: api.EvNoop}}[r.Intn(3)]
	case 15:
		return api.Event{Kind: api.EvTear, A: p, N: []int{0, r.Intn(20), r.Intn(100), 100000}[r.Intn(4)]}
	default:
		return api.Event{Kind: api.EvRestart, A: p}
	}
}

// live is so many spans of time: each begins with disturbances, and has quieter rounds then.
func live(r *rand.Rand, nodes, spans int) []api.Event {
	var l []api.Event
	for range spans {
		for range r.Intn(8) {
			l = append(l, disturb(r, nodes))
		}
		for range 4 + r.Intn(16) {
			l = append(l, api.Event{Kind: api.EvRound})
			for r.Intn(2) == 0 {
				l = append(l, ask(r, r.Intn(nodes)))
			}
			if r.Intn(6) == 0 {
				l = append(l, disturb(r, nodes))
			}
		}
	}
	return l
}

// drawn is a script without flips, and with nothing put in.
func drawn(seed int64, spans int) (*rand.Rand, api.Script) {
	r := rand.New(rand.NewSource(seed))
	c := drawnConfig(r)
	return r, api.Script{Config: c, Events: live(r, c.Nodes, spans)}
}

// played is the trace of a script that can be played.
func played(t testing.TB, s api.Script) []api.Mark {
	t.Helper()
	l, e := world.Play(s)
	if e != api.OK {
		t.Fatalf("P16.1: Play: error %d", e)
	}
	return l
}

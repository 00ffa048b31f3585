package world_test

import (
	"math/rand"
	"slices"
	"testing"

	"quorate/api"
)

// calm: all nodes are up as new incarnations, all paths are open and short, and many rounds go by.
func calm(nodes, rounds int) []api.Event {
	l := []api.Event{{Kind: api.EvSplit, Sides: make([]int, nodes)}}
	for p := range nodes {
		l = append(l, api.Event{Kind: api.EvCrash, A: p}, api.Event{Kind: api.EvRestart, A: p})
		for q := range nodes {
			l = append(l, api.Event{Kind: api.EvDelay, A: p, B: q, N: 1})
		}
	}
	return slices.Concat(l, slices.Repeat([]api.Event{{Kind: api.EvRound}}, rounds))
}

// TestHolds: P3 to P6, P9, P10 and P13 to P15 in stories with crashes, torn writes, cuts and losses; and nothing that was answered is lost when all is left alone then.
func TestHolds(t *testing.T) {
	t.Parallel()
	seen := map[string]int{}
	for seed := range int64(120) {
		_, s := drawn(1000+seed, 14)
		if seed%6 == 0 {
			s.Config.Room = 30 + int(seed)
		}
		live := len(s.Events)
		s = changed(s, s.Events, calm(s.Config.Nodes, 80))
		l := played(t, s)
		g, w := watchingGroup(t, s.Config.Window), watchingService(t)
		for _, m := range l {
			g.take(m)
			w.take(m)
		}
		kindsSeen(seen, l)
		if seed%6 != 0 {
			wantKept(t, w, s.Config.Nodes, live, l)
			seen["answered"] += len(w.answered)
		}
	}
	wantSeen(t, seen, map[string]int{"boots": 600, "crashes": 400, "blocks": 1000, "installs": 2000, "deliveries": 8000, "safes": 5000, "adopts": 800, "entries": 3000, "answers": 800, "answered": 800})
}

// wantKept: P9: when all nodes are together again, each has adopted a log of all that was answered.
func wantKept(t *testing.T, w *serviceWatch, nodes, live int, l []api.Mark) {
	t.Helper()
	last := 0
	for r := range w.answered {
		last = max(last, w.at[r])
	}
	kept := map[int]int{}
	for _, m := range of(l, api.MarkAdopt) {
		if m.At > live {
			kept[m.Node] = m.N
		}
	}
	for p := range nodes {
		if n, is := kept[p]; !is || n < last {
			t.Fatalf("P9: node %d has adopted %v a log of %d entries; entry %d was answered", p, is, n, last)
		}
	}
}

// TestLostIsTold: the first half of P14, and P12, with flips and packets that are put in.
func TestLostIsTold(t *testing.T) {
	t.Parallel()
	lost := 0
	for seed := range int64(40) {
		r, s := drawn(1200+seed, 10)
		s = forged(t, r, s)
		sent := map[who]int{}
		for _, m := range played(t, s) {
			me := who{m.Node, m.Inc}
			switch m.Kind {
			case api.MarkSend:
				sent[me]++
			case api.MarkDeliver:
				if m.Sender == m.Node {
					sent[me]--
				}
			case api.MarkInstall:
				if m.N != max(0, sent[me]) { // below 0: one was put in as its own
					t.Fatalf("P14: %d messages are lost, told: %+v", sent[me], m)
				}
				lost += m.N
				sent[me] = 0
			case api.MarkHalt:
				if m.N != 1 {
					t.Fatalf("P15: %+v", m)
				}
			}
			if n := sent[me]; n > api.MaxQueue+s.Config.Window {
				t.Fatalf("P12: %d messages of one node wait", n)
			}
		}
	}
	if lost < 20 {
		t.Errorf("%d messages were lost: the test is too weak", lost)
	}
}

// TestFloor: P15: with a Floor up to 2^61 nothing halts, with one near MaxCount it does.
func TestFloor(t *testing.T) {
	for _, x := range []struct {
		floor int
		halts bool
	}{{0, false}, {1 << 61, false}, {api.MaxCount - 2, true}, {api.MaxCount - 1, true}} {
		c := with(config(3), func(c *api.Config) { c.Floor = x.floor })
		r := rand.New(rand.NewSource(7))
		if halts := has(played(t, api.Script{Config: c, Events: live(r, 3, 20)}), api.MarkHalt); halts != x.halts {
			t.Errorf("P15: with the Floor %d halted: %v", x.floor, halts)
		}
	}
}

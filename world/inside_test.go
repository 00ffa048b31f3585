package world

import (
	"runtime"
	"testing"
	"time"

	"quorate/api"
)

// begun is a play of two nodes behind its beginning.
func begun(t *testing.T) *play {
	t.Helper()
	p := newPlay(api.Config{Nodes: 2, Window: 2, Base: 2, Step: 1, Cap: 8, Room: 100, Votes: []int{1, 1}})
	p.beginAll()
	return p
}

// wantGoroutines: so many are there, or will be in a moment.
func wantGoroutines(t *testing.T, want int) {
	t.Helper()
	for range 200 {
		if runtime.NumGoroutine() == want {
			return
		}
		time.Sleep(5 * time.Millisecond)
	}
	t.Errorf("Ways: %d goroutines, want %d", runtime.NumGoroutine(), want)
}

// TestGoroutines: each node that is up is a goroutine.
func TestGoroutines(t *testing.T) {
	before := runtime.NumGoroutine()
	p := begun(t)
	wantGoroutines(t, before+2)
	p.happen(api.Event{Kind: api.EvCrash, A: 1})
	wantGoroutines(t, before+1)
	p.happen(api.Event{Kind: api.EvRestart, A: 1})
	wantGoroutines(t, before+2)
	p.happen(api.Event{Kind: api.EvTear, A: 0, N: 3})
	wantGoroutines(t, before+1)
	p.end()
	wantGoroutines(t, before)
}

// TestTicks: P16.5: the network counts the nodes' ticks.
func TestTicks(t *testing.T) {
	p := begun(t)
	defer p.end()
	want := func(a, b, clock int) {
		t.Helper()
		if p.Ticks(0) != a || p.Ticks(1) != b || p.Clock() != clock {
			t.Errorf("P16.5: ticks %d and %d, clock %d, want %d and %d, clock %d", p.Ticks(0), p.Ticks(1), p.Clock(), a, b, clock)
		}
	}
	want(0, 0, 0)
	p.happen(api.Event{Kind: api.EvRound})
	want(1, 1, 1)
	p.happen(api.Event{Kind: api.EvTick, A: 1})
	want(1, 2, 1)
	p.happen(api.Event{Kind: api.EvTear, A: 1, N: -1})
	want(1, 2, 1)
	p.happen(api.Event{Kind: api.EvTear, A: 1})
	want(1, 3, 1)
	p.happen(api.Event{Kind: api.EvRound})
	want(2, 3, 2)
	p.happen(api.Event{Kind: api.EvRestart, A: 1})
	want(2, 0, 2)
	if p.Inc(1) != 2 || !p.Up(1) {
		t.Errorf("P16.5: node 1 is up %v with incarnation %d", p.Up(1), p.Inc(1))
	}
}

// TestDisks: P16.3 and P16.5: what stands on the disks.
func TestDisks(t *testing.T) {
	p := newPlay(api.Config{Nodes: 2, Window: 2, Base: 2, Step: 1, Cap: 8, Room: 100, Votes: []int{1, 0}})
	defer p.end()
	want := func(a, b int) {
		t.Helper()
		if len(p.disks[0].A) != a || len(p.disks[1].A) != b || len(p.disks[0].B)+len(p.disks[1].B) != 0 {
			t.Errorf("P16.3 and P16.5: %d and %d bytes, want %d and %d", len(p.disks[0].A), len(p.disks[1].A), a, b)
		}
	}
	want(0, 0)
	p.beginAll()
	want(18, 18) // the heads
	p.happen(api.Event{Kind: api.EvTear, A: 0, N: 4})
	want(22, 18) // a promise, torn
	p.happen(api.Event{Kind: api.EvRestart, A: 0})
	if len(p.disks[0].B) != 18 { // begun anew in the other file
		t.Errorf("P16.3: the other file has %d bytes", len(p.disks[0].B))
	}
}

// TestEmptyNetwork: P16.5: what the network does to packets is not told.
func TestEmptyNetwork(t *testing.T) {
	p := begun(t)
	defer p.end()
	p.happen(api.Event{Kind: api.EvRound})
	told, n := len(p.trace), len(p.Flights())
	for _, e := range []api.Event{{Kind: api.EvDup, A: 0}, {Kind: api.EvDup, A: 99}, {Kind: api.EvInject, A: 1, B: 0, Body: []byte("x")}, {Kind: api.EvHold, A: 0, N: 3}, {Kind: api.EvDrop, A: 1}, {Kind: api.EvFlip, A: 0, N: 1}, {Kind: api.EvCut, A: 0, B: 1}} {
		p.happen(e)
	}
	if len(p.trace) != told || len(p.Flights()) != n+1 || p.Open(0, 1) || n == 0 {
		t.Errorf("P16.5: %d marks behind %d, %d packets behind %d", len(p.trace), told, len(p.Flights()), n)
	}
}

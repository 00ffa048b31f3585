package group_test

import (
	"testing"

	"quorate/api"
)

// wantHalted: nothing happens any more, and the queries tell what was.
func wantHalted(t *testing.T, h *hand, v api.View, queue int) {
	t.Helper()
	for range 3 {
		if l, e := h.g.Tick(); l != nil || e != api.ErrHalted {
			t.Fatalf("10.3: halted: Tick = %v, error %d", l, e)
		}
		wantSend(t, "10.3: halted", h.g, []byte("x"), 0, api.ErrHalted)
		wantSend(t, "10.3: halted", h.g, make([]byte, api.MaxBlob+1), 0, api.ErrHalted)
		if e := h.g.Leave(); e != api.ErrHalted {
			t.Fatalf("G5: halted: error %d", e)
		}
		if e := h.g.Receive(nil); e != api.ErrHalted {
			t.Fatalf("G7, point 1: error %d", e)
		}
		for kind, p := range oneOfEach(t, v) {
			wantReceive(t, "G7, point 1", h.g, h.sent(1, 5, kind, p), api.ErrHalted)
		}
		wantBlocked(t, "10.3: halted", h.g, true)
		wantQueue(t, "10.3: halted", h.g, queue)
		if !h.g.Halted() || !sameView(h.g.View(), v) {
			t.Fatalf("10.3: halted: Halted %v, View %v", h.g.Halted(), h.g.View())
		}
	}
}

func TestHaltsInTick(t *testing.T) {
	c := patient(2)
	c.Floor = api.MaxCount - 1
	h := byHand(t, c, 0, 3)
	h.tick()
	v := h.g.View()
	if v.ID != (api.ViewID{Epoch: api.MaxCount, Lead: 0, Inc: 3, Cid: api.MaxCount}) {
		t.Fatalf("G8: the first view is %v", v)
	}
	h.g.Poll()
	sendMany(t, h, 1, 1)
	h.tick()
	sendMany(t, h, 2, 2)
	h.hears(3, 5)
	if h.g.Halted() {
		t.Fatal("G7, point 5: halted by a beat")
	}
	if l, e := h.g.Tick(); l != nil || e != api.ErrHalted {
		t.Fatalf("G6: the tick in which it halts answers %v, error %d", l, e)
	}
	wantHalted(t, h, v, 2)
	wantNotes(t, "G3: what was told ahead, and the halt", h.g, "deliver 0.1 @1 m1; safe 1; halt")
	wantHalted(t, h, v, 2)
	wantNotes(t, "G3", h.g, "")
}

func TestHaltsFresh(t *testing.T) {
	c := patient(2)
	c.Floor = api.MaxCount - 1
	h := byHand(t, c, 0, 3)
	h.hears(3, 5)
	if l, e := h.g.Tick(); l != nil || e != api.ErrHalted {
		t.Fatalf("G6: the tick in which it halts answers %v, error %d", l, e)
	}
	wantNotes(t, "G3", h.g, "halt")
	if !h.g.Halted() || !h.g.Blocked() || len(h.g.View().Members) != 0 {
		t.Fatalf("10.3: Halted %v, Blocked %v, View %v", h.g.Halted(), h.g.Blocked(), h.g.View())
	}
}

func TestHaltsInReceive(t *testing.T) {
	c := patient(2)
	c.Floor = api.MaxCount - 2
	h := byHand(t, c, 0, 3)
	h.tick()
	h.hears(3, 5)
	h.tick()
	h.agree(7, api.MaxCount, api.ViewID{}, 3, 5)
	v := h.g.View()
	if v.ID != (api.ViewID{Epoch: api.MaxCount, Lead: 0, Inc: 3, Cid: api.MaxCount}) || len(v.Members) != 2 {
		t.Fatalf("10.3: the view is %v", v)
	}
	h.g.Poll()
	sendMany(t, h, 1, 4)
	h.tick()
	wantNotes(t, "10.4", h.g, "deliver 0.1 @1 m1; deliver 0.2 @2 m2")
	p := leaving(v, 7, 0)
	p.Top = 1
	h.propose(1, 5, p, api.OK) // no later cid: no change
	wantBlocked(t, "10.3", h.g, false)
	p.Cid, p.Vec = 8, []int{0, 8}
	h.propose(1, 5, p, api.ErrHalted)
	wantHalted(t, h, v, 2)
	wantNotes(t, "G3: no block", h.g, "halt")
}

// TestFarFromSpent: numbers of others at their ends halt nobody.
func TestFarFromSpent(t *testing.T) {
	h, v := inPair(t, 0)
	h.propose(1, 5, api.Propose{Set: []int{3, 5}, Cid: api.MaxCount, Top: api.MaxCount - 1, Prev: v.ID, Vec: []int{0, api.MaxCount}}, api.OK)
	wantNotes(t, "10.3", h.g, "block")
	h.flush(1, 5, content(v, 0, nil, 0, 0), api.OK)
	h.propose(1, 5, api.Propose{Set: []int{3, 5}, Cid: api.MaxCount, Top: api.MaxCount - 1, Prev: v.ID, Vec: []int{3, api.MaxCount}}, api.OK)
	wantNotes(t, "10.3", h.g, "install {4611686018427387904 0 3 3} [{0 3 3} {1 5 4611686018427387904}] trans [0 1] lost 0")
	sendMany(t, h, 1, 1)
	h.tick()
	wantNotes(t, "10.4", h.g, "deliver 0.1 @1 m1")
	h.beat(1, 5, 0, 5)
	if _, e := h.g.Tick(); e != api.ErrHalted {
		t.Fatalf("G6: behind the last epoch: error %d, want a halt", e)
	}
	wantNotes(t, "10.3", h.g, "halt")
}

package group_test

import (
	"math/rand"
	"testing"

	"quorate/api"
)

// ends: the most that one change can deliver: messages 1 to MaxHeld of node 1, each a whole blob.
func ends(t *testing.T, h *hand, v api.View) {
	t.Helper()
	var all []api.Slot
	var msgs []api.Data
	for k := range api.MaxHeld {
		all = append(all, api.Slot{Sender: 1, Seq: k + 1})
		msgs = append(msgs, message(1, k+1, chunk(t, "")))
	}
	h.forward(1, 5, forward(v, msgs...), api.OK)
	h.flush(1, 5, content(v, 0, all, 0, api.MaxHeld), api.OK)
}

// TestMostNotes: notes up to MaxNotes less one, then all that one change brings, a block and a halt.
func TestMostNotes(t *testing.T) {
	c := config(2, 1, 8, 1, 8)
	c.Floor = api.MaxCount - 4
	h := byHand(t, c, 0, 3)
	h.tick()
	h.g.Poll()
	for k := range 30 { // a delivery and a safe each
		wantSend(t, "G4", h.g, nil, k+1, api.OK)
		h.tick()
	}
	h.hears(3, 5)
	h.tick()
	h.agree(7, c.Floor+2, api.ViewID{}, 3, 5)
	v := h.g.View()
	wantBlocked(t, "10.3", h.g, false)
	p := leaving(v, 8, 0)
	h.propose(1, 5, p, api.OK)
	ends(t, h, v)
	p.Vec = []int{c.Floor + 3, 8}
	h.propose(1, 5, p, api.OK)
	w := h.g.View()
	if w.ID.Epoch != c.Floor+3 {
		t.Fatalf("10.3: with %d notes the view is %v", api.MaxNotes-1, w)
	}
	h.propose(1, 5, api.Propose{Set: []int{3, 5}, Cid: 9, Top: 1, Prev: w.ID, Vec: []int{0, 9}}, api.OK)
	h.flush(1, 5, content(w, 0, nil, 0, 0), api.OK)
	h.propose(1, 5, api.Propose{Set: []int{3, 5}, Cid: 9, Top: 1, Prev: w.ID, Vec: []int{c.Floor + 4, 9}}, api.OK)
	if !sameView(h.g.View(), w) || !h.g.Blocked() {
		t.Fatalf("10.3, point 1: with so many notes %v was installed", h.g.View())
	}
	h.beat(1, 5, 0, 5)
	if _, e := h.g.Tick(); e != api.ErrHalted {
		t.Fatalf("G6: error %d, want a halt", e)
	}
	l := h.g.Poll()
	if want := api.MaxNotes - 1 + api.MaxHeld + 3; len(l) != want {
		t.Fatalf("G13: %d notes, want %d", len(l), want)
	}
	if got := words(l[len(l)-2:]); got != "block; halt" {
		t.Fatalf("G13: the last notes are %s", got)
	}
}

// TestBounded: whatever bytes come, and if nobody polls.
func TestBounded(t *testing.T) {
	r := rand.New(rand.NewSource(7))
	most := 0
	for range 60 {
		w := wilder(t, r)
		w.false, w.lazy = true, true
		s := story{r: r, c: w.c}
		for range 10 {
			lost := s.weather()
			for range 10 {
				w.turn(lost)
				for p, x := range w.nodes {
					if n := x.g.Queue(); n > api.MaxQueue {
						t.Fatalf("G13: node %d has %d chunks in its queue", p, n)
					}
				}
			}
		}
		for _, x := range w.nodes {
			most = max(most, len(x.poll(t))) // held against the bound there
		}
	}
	if most < api.MaxNotes {
		t.Errorf("there were never more than %d notes: the test is too weak", most)
	}
}

// TestGarbage: bytes of all kinds and lengths.
func TestGarbage(t *testing.T) {
	r := rand.New(rand.NewSource(8))
	for state, begin := range states(t) {
		wantUnchanged(t, "G13: "+state+", garbage", begin, func(h *hand) {
			for range 2000 {
				b := make([]byte, r.Intn(60))
				r.Read(b)
				copy(b, []byte{0x51, 0x56, 1, byte(r.Intn(9))}[:r.Intn(5)])
				if e := h.g.Receive(b); e == api.OK {
					t.Fatalf("G7: garbage was taken: %v", b)
				}
			}
		})
	}
}

package group_test

import (
	"slices"
	"testing"

	"quorate/api"
)

// wantHeads: who sends, to which incarnation.
func wantHeads(t *testing.T, what string, l []api.Packet, self, inc int, known ...int) {
	t.Helper()
	for _, p := range l {
		want := known[p.Dst]
		if p.Kind == api.KindBeat {
			want = 0
		}
		if p.Src != self || p.SrcInc != inc || p.DstInc != want {
			t.Fatalf("%s: the Head is %+v, want Src %d/%d, DstInc %d", what, p.Head, self, inc, want)
		}
	}
}

func TestPackets(t *testing.T) {
	h := byHand(t, patient(4), 1, 3)
	wantKinds(t, "G6: alone", h.tick(), "0:beat 2:beat 3:beat")
	h.hears(5, 3, 6, 0)
	p := h.tick()
	wantKinds(t, "G6: in a change: no content for who is no member", p, "0:beat 0:propose 2:beat 2:propose 3:beat")
	wantHeads(t, "G6", p, 1, 3, 5, 0, 6, 0)
	wantBeat(t, "G6", p[0], 2, 5, 3, 6, 0)
	h.agree(7, 2, api.ViewID{}, 5, 3, 6, 0)
	p = h.tick()
	wantKinds(t, "G6: in a view in which nobody was seen", p, "0:beat 0:propose 0:stable 2:beat 2:propose 2:stable 3:beat")
	wantHeads(t, "G6", p, 1, 3, 5, 0, 6, 0)
	own := p[1].Propose
	if !slices.Equal(own.Set, []int{5, 3, 6, 0}) || !slices.Equal(own.Vec, []int{7, 2, 7, 0}) || own.Cid != 2 {
		t.Fatalf("G6: behind the install the last proposal is told on, but it is %+v", own)
	}
	h.stable(0, 5, 0, 0, api.OK)
	wantKinds(t, "G6: who is seen is not told the proposal", h.tick(), "0:beat 0:stable 2:beat 2:propose 2:stable 3:beat")
	wantSend(t, "G4", h.g, nil, 1, api.OK)
	h.frame(0, 5, 1, data(t, 0, 1, 0, nil), api.OK)
	p = h.tick()
	wantKinds(t, "G6: frames and acks", p, "0:beat 0:stable 0:frame 0:ack 2:beat 2:propose 2:stable 2:frame 3:beat")
	wantHeads(t, "G6", p, 1, 3, 5, 0, 6, 0)
	h.frame(2, 6, 1, data(t, 2, 1, 0, nil), api.OK)
	h.propose(0, 5, api.Propose{Set: []int{5, 3, 6, 0}, Cid: 8, Top: 2, Prev: h.g.View().ID, Vec: []int{8, 0, 0, 0}}, api.OK)
	p = h.tick()
	wantKinds(t, "G6: blocked: contents, and nothing of the view", p, "0:beat 0:propose 0:flush 2:beat 2:propose 2:flush 3:beat")
	wantHeads(t, "G6", p, 1, 3, 5, 0, 6, 0)
	want := api.Flush{Prev: h.g.View().ID, Have: []int{1, 1, 1, 0}}
	if f := first(t, p, 2, api.KindFlush).Flush; !sameFlush(f, want) {
		t.Fatalf("G6: the own content is told as %v, want %v", f, want)
	}
	h.beat(3, 9, 0, 3, 0, 9)
	wantKinds(t, "G6: who is in the set, but not of the view, is told no content", h.tick(), "0:beat 0:propose 0:flush 2:beat 2:propose 2:flush 3:beat 3:propose")
	h.beat(0, 5, 5, 0, 0, 0)
	wantKinds(t, "G6: who is of the view, but not in the set, is told nothing", h.tick(), "0:beat 2:beat 2:propose 2:flush 3:beat 3:propose")
}

// TestNewIncarnation: it is no member, and what goes to it names it.
func TestNewIncarnation(t *testing.T) {
	h := byHand(t, patient(3), 1, 3)
	h.join(5, 3, 6)
	h.beat(0, 8, 8, 3, 6)
	p := h.tick()
	wantNotes(t, "10.3", h.g, "block")
	wantKinds(t, "G6: no content for another incarnation than the view's", p, "0:beat 0:propose 2:beat 2:propose 2:flush")
	wantHeads(t, "G6", p, 1, 3, 8, 0, 6)
}

// threeEnd: node 1 of three in a view that ends: it lacks message 1 of node 2, and node 0 lacks its own message 1.
func threeEnd(t *testing.T) (*hand, api.View) {
	t.Helper()
	h := byHand(t, patient(3), 1, 3)
	v := h.join(5, 3, 6)
	wantSend(t, "G4", h.g, []byte("mine"), 1, api.OK)
	h.tick()
	h.frame(0, 5, 1, slot(t, 1, 0, 1, 1), api.OK)
	h.frame(0, 5, 2, slot(t, 2, 0, 2, 1), api.OK)
	wantNotes(t, "10.4", h.g, "deliver 1.1 @1 mine")
	h.propose(0, 5, api.Propose{Set: []int{5, 3, 6}, Cid: 8, Top: 2, Prev: v.ID, Vec: []int{8, 0, 0}}, api.OK)
	h.agree(8, 3, v.ID, 5, 3, 6)
	wantNotes(t, "10.3", h.g, "block")
	return h, v
}

func TestForwards(t *testing.T) {
	h, v := threeEnd(t)
	wantKinds(t, "G6: no content has come", h.tick(), "0:beat 0:propose 0:flush 2:beat 2:propose 2:flush")
	h.flush(0, 5, content(v, 0, slots(1, 1, 2, 1), 0, 0, 0), api.OK)
	wantKinds(t, "G6: one content is missing", h.tick(), "0:beat 0:propose 0:flush 2:beat 2:propose 2:flush")
	h.flush(2, 6, content(v, 0, slots(1, 1), 0, 1, 1), api.OK)
	wantBlocked(t, "10.3: a message is missing", h.g, true)
	p := h.tick()
	wantKinds(t, "G6: what node 0 lacks", p, "0:beat 0:propose 0:flush 0:forward 2:beat 2:propose 2:flush")
	wantForward(t, first(t, p, 0, api.KindForward), v, message(1, 1, chunk(t, "mine")))
	wantHeads(t, "G6", p, 1, 3, 5, 0, 6)

	h.forward(2, 6, forward(v, message(2, 1, chunk(t, "its"))), api.OK)
	wantNotes(t, "10.3", h.g, "deliver 2.1 @2 its; install {3 0 5 8} [{0 5 8} {1 3 3} {2 6 8}] trans [0 1 2] lost 0")
	p = h.tick()
	wantKinds(t, "G6: the past is told on", p, "0:beat 0:propose 0:flush 0:forward 0:stable 2:beat 2:propose 2:flush 2:stable")
	wantForward(t, first(t, p, 0, api.KindForward), v, message(1, 1, chunk(t, "mine")))
	want := content(v, 0, slots(1, 1, 2, 1), 0, 1, 0)
	if f := first(t, p, 2, api.KindFlush).Flush; !sameFlush(f, want) {
		t.Fatalf("G6: the own content of the past is told as %v, want %v", f, want)
	}
	h.stable(2, 6, 0, 0, api.OK)
	wantKinds(t, "G6: who is seen needs no past", h.tick(), "0:beat 0:propose 0:flush 0:forward 0:stable 2:beat 2:stable")
	h.stable(0, 5, 0, 0, api.OK)
	wantKinds(t, "G6: who is seen needs no past", h.tick(), "0:beat 0:stable 2:beat 2:stable")
}

func wantForward(t *testing.T, p api.Packet, v api.View, want ...api.Data) {
	t.Helper()
	f := p.Forward
	if f.Prev != v.ID || !slices.EqualFunc(f.Msgs, want, func(a, b api.Data) bool {
		return a.Sender == b.Sender && a.Seq == b.Seq && a.Stable == b.Stable && slices.Equal(a.Body, b.Body)
	}) {
		t.Fatalf("G6: a Forward is %v, want %v of %v", f, want, v.ID)
	}
}

// TestPastForgotten: with the next change the past is told no more.
func TestPastForgotten(t *testing.T) {
	h, v := threeEnd(t)
	h.flush(0, 5, content(v, 0, slots(1, 1, 2, 1), 0, 0, 0), api.OK)
	h.flush(2, 6, content(v, 0, slots(1, 1), 0, 1, 1), api.OK)
	h.forward(2, 6, forward(v, message(2, 1, chunk(t, "its"))), api.OK)
	h.g.Poll()
	w := h.g.View()
	h.propose(2, 6, api.Propose{Set: []int{5, 3, 6}, Cid: 9, Top: 3, Prev: w.ID, Vec: []int{0, 0, 9}}, api.OK)
	wantNotes(t, "10.3", h.g, "block")
	p := h.tick()
	wantKinds(t, "10.3: the past is forgotten", p, "0:beat 0:propose 0:flush 2:beat 2:propose 2:flush")
	want := api.Flush{Prev: w.ID, Have: []int{0, 0, 0}}
	if f := first(t, p, 0, api.KindFlush).Flush; !sameFlush(f, want) {
		t.Fatalf("10.3: the content is told as %v, want %v", f, want)
	}
	h.beat(0, 5, 5, 0, 0)
	h.beat(2, 6, 0, 0, 6)
	h.tick()
	wantNotes(t, "10.3", h.g, "install {4 1 3 5} [{1 3 5}] trans [1] lost 0")
	h.hears(5, 3, 0)
	h.tick()
	h.agree(9, 6, api.ViewID{}, 5, 3, 0)
	wantNotes(t, "10.3", h.g, "block; install {5 0 5 9} [{0 5 9} {1 3 6}] trans [1] lost 0")
	wantKinds(t, "G6: who did not come along is told no past", h.tick(), "0:beat 0:propose 0:stable 2:beat")
}

// TestAckOwed: an answer that is owed when a change begins is never given.
func TestAckOwed(t *testing.T) {
	h, v := inPair(t, 0)
	h.frame(1, 5, 1, data(t, 1, 1, 0, chunk(t, "a")), api.OK)
	h.propose(1, 5, leaving(v, 8, 0), api.OK)
	wantKinds(t, "G6: blocked, it is not asked", h.tick(), "1:beat 1:propose 1:flush")
	h.propose(1, 5, leaving(v, 8, 3), api.OK)
	h.flush(1, 5, content(v, 0, nil, 0, 1), api.OK)
	wantBlocked(t, "10.3", h.g, false)
	wantKinds(t, "10.3, point 5: nothing is owed in the new view", h.tick(), "1:beat 1:propose 1:flush 1:stable")
}

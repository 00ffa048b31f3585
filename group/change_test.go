package group_test

import (
	"fmt"
	"testing"

	"quorate/api"
	"quorate/frag"
)

// leaving: a proposal by which a member of the view tells that it is about to leave it, with this cid; it has heard of the own cid (0: not yet).
func leaving(v api.View, cid, own int) api.Propose {
	return api.Propose{Set: []int{3, 5}, Cid: cid, Top: v.ID.Epoch, Prev: v.ID, Vec: []int{own, cid}}
}

func content(v api.View, base int, slots []api.Slot, have ...int) api.Flush {
	return api.Flush{Prev: v.ID, Base: base, Slots: slots, Have: have}
}

func slots(l ...int) []api.Slot {
	var list []api.Slot
	for i := 0; i < len(l); i += 2 {
		list = append(list, api.Slot{Sender: l[i], Seq: l[i+1]})
	}
	return list
}

func message(sender, seq int, body []byte) api.Data {
	return api.Data{Sender: sender, Seq: seq, Body: body}
}

func forward(v api.View, msgs ...api.Data) api.Forward {
	return api.Forward{Prev: v.ID, Msgs: msgs}
}

func TestFirstView(t *testing.T) {
	h := byHand(t, patient(2), 0, 3)
	h.hears(3, 5)
	wantKinds(t, "G6", h.tick(), "1:beat 1:propose")
	wantNotes(t, "10.3: no block where no view is", h.g, "")
	wantBlocked(t, "G2", h.g, true)
	h.agree(7, 2, api.ViewID{}, 3, 5)
	wantNotes(t, "10.3: the first view", h.g, "install {2 0 3 2} [{0 3 2} {1 5 7}] trans [0] lost 0")
	wantKinds(t, "10.1: of the first view the past is empty", h.tick(), "1:beat 1:propose 1:stable")
}

func TestBlockOnce(t *testing.T) {
	h := byHand(t, patient(3), 0, 3)
	h.join(3, 5, 6)
	v := h.g.View()
	h.propose(1, 5, api.Propose{Set: []int{3, 5, 6}, Cid: 8, Top: 2, Prev: v.ID, Vec: []int{0, 8, 0}}, api.OK)
	wantNotes(t, "10.3: by a proposal", h.g, "block")
	wantBlocked(t, "10.3", h.g, true)
	h.beat(2, 6, 0, 0, 6)
	own := first(t, h.tick(), 1, api.KindPropose).Propose
	if own.Cid != 4 || own.Set[2] != 0 {
		t.Fatalf("10.3: a new change begins in a change, but the proposal is %+v", own)
	}
	wantNotes(t, "10.3: a second change tells no block", h.g, "")
	if !sameView(h.g.View(), v) {
		t.Fatalf("G2: in a change the View is %v, want %v", h.g.View(), v)
	}
	h.beat(1, 5, 0, 5, 0)
	h.tick()
	wantNotes(t, "10.3: the third one installs", h.g, "install {3 0 3 5} [{0 3 5}] trans [0] lost 0")
	wantBlocked(t, "10.3", h.g, false)
}

func TestWaitsForContents(t *testing.T) {
	h, v := inPair(t, 0)
	h.frame(1, 5, 1, data(t, 1, 1, 0, chunk(t, "a")), api.OK)
	sendMany(t, h, 1, 1)
	h.tick()
	wantNotes(t, "10.4", h.g, "deliver 1.1 @1 a; deliver 0.1 @2 m1")
	h.propose(1, 5, leaving(v, 8, 0), api.OK)
	h.propose(1, 5, leaving(v, 8, 3), api.OK)
	wantNotes(t, "10.3, point 2: a content is missing", h.g, "block")
	wantBlocked(t, "10.3, point 2", h.g, true)
	h.tick()
	other := content(v, 0, nil, 0, 1)
	other.Prev.Epoch--
	h.flush(1, 5, other, api.OK)
	wantNotes(t, "10.3, point 2: of another view", h.g, "")
	h.flush(1, 5, content(v, 0, nil, 0, 1), api.OK)
	wantNotes(t, "10.3", h.g, "install {3 0 3 3} [{0 3 3} {1 5 8}] trans [0 1] lost 0")
}

func TestWaitsForMessages(t *testing.T) {
	h, v := inPair(t, 1)
	sendMany(t, h, 1, 2)
	h.tick()
	p := api.Propose{Set: []int{5, 3}, Cid: 8, Top: 2, Prev: v.ID, Vec: []int{8, 0}}
	h.propose(0, 5, p, api.OK)
	p.Vec = []int{8, 3}
	h.propose(0, 5, p, api.OK)
	h.flush(0, 5, content(v, 0, slots(0, 1, 1, 1, 0, 2), 2, 1), api.OK)
	wantNotes(t, "10.3, point 2: messages are missing", h.g, "block")
	h.forward(0, 5, forward(v, message(0, 1, chunk(t, "y"))), api.OK)
	wantNotes(t, "10.3, point 2: one message is missing", h.g, "")
	h.tick()
	h.forward(0, 5, forward(v, message(0, 2, chunk(t, "z"))), api.OK)
	wantNotes(t, "10.3", h.g, "deliver 0.1 @1 y; deliver 1.1 @2 m1; deliver 0.2 @3 z; install {3 0 5 8} [{0 5 8} {1 3 3}] trans [0 1] lost 1")
	wantBlocked(t, "10.3", h.g, false)
	wantSend(t, "10.3, point 5", h.g, nil, 1, api.OK)
}

// TestOwnMessagesFirst: what a node holds itself counts, whatever is forwarded to it.
func TestOwnMessagesFirst(t *testing.T) {
	h, v := inPair(t, 1)
	h.frame(0, 5, 1, data(t, 0, 1, 0, chunk(t, "mine")), api.OK)
	p := api.Propose{Set: []int{5, 3}, Cid: 8, Top: 2, Prev: v.ID, Vec: []int{8, 3}}
	h.propose(0, 5, p, api.OK)
	h.forward(0, 5, forward(v, message(0, 1, chunk(t, "another"))), api.OK)
	h.flush(0, 5, content(v, 0, slots(0, 1), 1, 0), api.OK)
	wantNotes(t, "10.3, point 2: the order's Messages, then the store's", h.g, "block; deliver 0.1 @1 mine; install {3 0 5 8} [{0 5 8} {1 3 3}] trans [0 1] lost 0")
}

// TestUnlikeEndings: contents that contradict one another end no view; who goes on alone is free of them.
func TestUnlikeEndings(t *testing.T) {
	h, v := inPair(t, 0)
	sendMany(t, h, 1, 1)
	h.tick()
	wantNotes(t, "10.4", h.g, "deliver 0.1 @1 m1")
	h.propose(1, 5, leaving(v, 8, 3), api.OK)
	h.flush(1, 5, content(v, 0, slots(1, 1), 1, 1), api.OK)
	for range 8 {
		h.beat(1, 5, 3, 5)
		h.tick()
		wantBlocked(t, "10.3, point 2: Rest is an error", h.g, true)
	}
	wantNotes(t, "10.3, point 2: Rest is an error", h.g, "block")
	h.beat(1, 5, 0, 5)
	h.tick()
	wantNotes(t, "10.3", h.g, "install {3 0 3 4} [{0 3 4}] trans [0] lost 0")
}

// TestBehindBase: a content that says that all have delivered further than this node has.
func TestBehindBase(t *testing.T) {
	h, v := inPair(t, 0)
	h.propose(1, 5, leaving(v, 8, 3), api.OK)
	h.flush(1, 5, content(v, 1, nil, 0, 1), api.OK)
	h.tick()
	wantNotes(t, "10.3, point 2: Rest is an error", h.g, "block")
	wantBlocked(t, "10.3, point 2: Rest is an error", h.g, true)
}

func TestLost(t *testing.T) {
	h, v := inPair(t, 1)
	sendMany(t, h, 1, 4)
	h.tick()
	h.frame(0, 5, 1, slot(t, 1, 0, 1, 1), api.OK)
	wantQueue(t, "10.4", h.g, 2)
	h.beat(0, 5, 5, 0)
	h.tick()
	wantNotes(t, "G3: what was accepted and not delivered is lost", h.g, "deliver 1.1 @1 m1; block; install {3 1 3 3} [{1 3 3}] trans [1] lost 3")

	h, v = inPair(t, 1) // more of its own than it has sent
	h.propose(0, 5, api.Propose{Set: []int{5, 3}, Cid: 8, Top: 2, Prev: v.ID, Vec: []int{8, 3}}, api.OK)
	h.forward(0, 5, forward(v, message(1, 1, chunk(t, "never sent"))), api.OK)
	h.flush(0, 5, content(v, 0, slots(1, 1), 0, 1), api.OK)
	wantNotes(t, "10.3, point 4: never below 0", h.g, "block; deliver 1.1 @1 never sent; install {3 0 5 8} [{0 5 8} {1 3 3}] trans [0 1] lost 0")
}

// TestLostInPart: a blob of which not all chunks were delivered is lost; the next view begins without its bytes.
func TestLostInPart(t *testing.T) {
	h := byHand(t, config(2, 1, 8, 1, 8), 1, 3)
	h.join(5, 3)
	wantSend(t, "G4", h.g, make([]byte, 249), 1, api.OK)
	h.tick()
	h.frame(0, 5, 1, slot(t, 1, 0, 1, 1), api.OK)
	wantNotes(t, "10.3: a blob that is not whole is not told", h.g, "")
	h.beat(0, 5, 5, 0)
	h.tick()
	wantNotes(t, "10.3", h.g, "block; install {3 1 3 3} [{1 3 3}] trans [1] lost 1")
	wantSend(t, "10.3, point 5", h.g, []byte("s"), 1, api.OK)
	h.tick()
	wantNotes(t, "10.3, point 5", h.g, "deliver 1.1 @1 s; safe 1")
}

// TestJoinerReset: the second chunk of a blob whose first one came in the view ahead makes nothing whole.
func TestJoinerReset(t *testing.T) {
	chunks, e := frag.Split(make([]byte, 249))
	if e != api.OK {
		t.Fatalf("P9.2: error %d", e)
	}
	h, _ := inPair(t, 0)
	h.frame(1, 5, 1, data(t, 1, 1, 0, chunks[0]), api.OK)
	h.beat(1, 5, 0, 5)
	h.tick()
	wantNotes(t, "10.3", h.g, "block; install {3 0 3 3} [{0 3 3}] trans [0] lost 0")
	h.hears(3, 5)
	h.tick()
	h.agree(9, 4, api.ViewID{}, 3, 5)
	wantNotes(t, "10.3", h.g, "block; install {4 0 3 4} [{0 3 4} {1 5 9}] trans [0] lost 0")
	h.frame(1, 5, 1, data(t, 1, 1, 0, chunks[1]), api.OK)
	h.frame(1, 5, 2, data(t, 1, 2, 0, chunk(t, "b")), api.OK)
	wantNotes(t, "10.3: what the joiner refuses is not told, and has a position", h.g, "deliver 1.1 @2 b")
}

func TestInstallNeedsNotes(t *testing.T) {
	for _, polled := range []bool{true, false} {
		h := byHand(t, config(2, 1, 8, 1, 8), 0, 3)
		h.tick()
		if polled {
			h.g.Poll()
		}
		for k := range 31 { // a delivery and a safe each: 62 notes, and the first install if it was not polled
			wantSend(t, "G4", h.g, nil, k+1, api.OK)
			h.tick()
		}
		h.hears(3, 5)
		h.tick()
		h.agree(7, 2, api.ViewID{}, 3, 5)
		wantBlocked(t, "10.3, point 1: MaxNotes notes and no install", h.g, !polled)
		l := h.g.Poll()
		if len(l) != api.MaxNotes || l[len(l)-1].Kind == api.NoteInstall != polled {
			t.Fatalf("10.3, point 1: %d notes, the last is %s", len(l), word(l[len(l)-1]))
		}
		if !polled {
			wantBlocked(t, "G3: Poll does nothing else", h.g, true)
			h.tick()
			wantNotes(t, "10.4", h.g, "install {2 0 3 2} [{0 3 2} {1 5 7}] trans [0] lost 0")
		}
	}
}

// TestNextView: streams, prefix and what was seen begin anew.
func TestNextView(t *testing.T) {
	h, v := inPair(t, 0)
	sendMany(t, h, 1, 2)
	h.tick()
	h.stable(1, 5, 2, 0, api.OK)
	wantNotes(t, "10.4", h.g, "deliver 0.1 @1 m1; deliver 0.2 @2 m2; safe 2")
	h.propose(1, 5, leaving(v, 8, 3), api.OK)
	h.flush(1, 5, content(v, 2, nil, 2, 0), api.OK)
	wantNotes(t, "10.3", h.g, "block; install {3 0 3 3} [{0 3 3} {1 5 8}] trans [0 1] lost 0")
	p := h.tick()
	wantKinds(t, "10.3, point 5: nobody is seen yet", p, "1:beat 1:propose 1:flush 1:stable")
	if s := first(t, p, 1, api.KindStable).Stable; s != (api.Stable{View: h.g.View().ID}) {
		t.Fatalf("10.3, point 5: a Stable is %+v", s)
	}
	wantReceive(t, "10.3, point 5: the Mux is reset", h.g, h.sent(1, 5, api.KindAck, api.Packet{Ack: api.Ack{Tag: v.ID, Upto: 1}}), api.ErrTag)
	sendMany(t, h, 1, 1)
	h.tick()
	wantNotes(t, "10.3, point 5", h.g, "deliver 0.1 @1 m1")
	h.stable(1, 5, 1, 0, api.OK)
	wantNotes(t, "10.3, point 5: told safe is 0", h.g, "safe 1")
}

// TestContentStands: the content that a node tells of a view is what it had when the change began.
func TestContentStands(t *testing.T) {
	h, v := inPair(t, 0)
	h.frame(1, 5, 1, data(t, 1, 1, 0, chunk(t, "a")), api.OK)
	h.propose(1, 5, leaving(v, 8, 0), api.OK)
	want := content(v, 0, slots(1, 1), 0, 1)
	for k := range 4 {
		if f := first(t, h.tick(), 1, api.KindFlush).Flush; !sameFlush(f, want) {
			t.Fatalf("10.3: the content is told as %v, want %v", f, want)
		}
		h.frame(1, 5, 2+k, data(t, 1, 2, 0, chunk(t, fmt.Sprint(k))), api.ErrFrozen)
		h.stable(1, 5, 1, 0, api.ErrFrozen)
	}
}

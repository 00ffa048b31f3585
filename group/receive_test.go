package group_test

import (
	"cmp"
	"testing"

	"quorate/api"
	"quorate/group"
)

// oneOfEach: a valid packet of each kind, by number, for a view, of a node of a pair.
func oneOfEach(t *testing.T, v api.View) map[int]api.Packet {
	t.Helper()
	return map[int]api.Packet{
		api.KindBeat:    {Beat: api.Beat{Tick: 99, Hears: []int{3, 5}}},
		api.KindPropose: {Propose: api.Propose{Set: []int{3, 5}, Cid: 7, Rev: 99, Top: 1, Vec: []int{0, 7}}},
		api.KindFlush:   {Flush: content(v, 0, nil, 0, 0)},
		api.KindStable:  {Stable: api.Stable{View: v.ID}},
		api.KindFrame:   {Frame: api.Frame{Tag: v.ID, Seq: 1, Body: data(t, 1, 1, 0, nil)}},
		api.KindAck:     {Ack: api.Ack{Tag: v.ID}},
		api.KindForward: {Forward: forward(v, message(1, 1, nil))},
	}
}

// wantUnchanged: behind refused calls a Group goes on as its twin does that was not given them.
func wantUnchanged(t *testing.T, what string, begin func() *hand, do func(h *hand)) {
	t.Helper()
	h, twin := begin(), begin()
	do(h)
	wantTwins(t, what, h, twin)
}

// wantTwins lets two Groups go through the same calls.
func wantTwins(t *testing.T, what string, h, twin *hand) {
	t.Helper()
	h.ticks, h.revs = max(h.ticks, twin.ticks), max(h.revs, twin.revs)
	twin.ticks, twin.revs = h.ticks, h.revs
	same := func(when string) {
		t.Helper()
		if got, want := words(h.g.Poll()), words(twin.g.Poll()); got != want {
			t.Fatalf("%s: %s the notes are %q, want %q", what, when, got, want)
		}
		if !sameView(h.g.View(), twin.g.View()) || h.g.Queue() != twin.g.Queue() || h.g.Blocked() != twin.g.Blocked() {
			t.Fatalf("%s: %s: View %v, Queue %d, want %v, %d", what, when, h.g.View(), h.g.Queue(), twin.g.View(), twin.g.Queue())
		}
		got, want := ticked(t, h.g), ticked(t, twin.g)
		if len(got) != len(want) {
			t.Fatalf("%s: %s a tick gives out %s, want %s", what, when, kinds(packets(t, got)), kinds(packets(t, want)))
		}
		for i := range got {
			if !sameOut(got[i], want[i]) {
				t.Fatalf("%s: %s a tick gives out %+v, want %+v", what, when, packets(t, got)[i], packets(t, want)[i])
			}
		}
	}
	same("at once")
	id := cmp.Or(twin.g.View().ID, api.ViewID{Epoch: 1, Lead: 0, Inc: 3, Cid: 1})
	for _, x := range []*hand{h, twin} {
		x.g.Send([]byte("later"))
		x.g.Receive(text(t, x.sent(1, 5, api.KindFrame, api.Packet{Frame: api.Frame{Tag: id, Seq: 1, Body: data(t, 1, 1, 0, nil)}})))
	}
	same("behind a Send and a Frame")
	for _, x := range []*hand{h, twin} {
		x.g.Receive(text(t, x.sent(1, 5, api.KindStable, api.Packet{Stable: api.Stable{View: id, Done: 1}})))
		x.hears(3, 5)
	}
	same("behind a Stable")
	for _, x := range []*hand{h, twin} {
		x.propose(1, 5, leaving(x.g.View(), 70, 0), api.OK)
		x.propose(1, 5, leaving(x.g.View(), 70, 3), api.OK)
		x.propose(1, 5, leaving(x.g.View(), 70, 4), api.OK)
	}
	same("behind proposals")
}

// states: those in which packets are refused.
func states(t *testing.T) map[string]func() *hand {
	return map[string]func() *hand{
		"fresh": func() *hand {
			h := byHand(t, patient(2), 0, 3)
			h.hears(3, 5)
			return h
		},
		"in a view": func() *hand {
			h, _ := inPair(t, 0)
			return h
		},
		"in a change": func() *hand {
			h, v := inPair(t, 0)
			h.propose(1, 5, leaving(v, 8, 0), api.OK)
			return h
		},
	}
}

func TestReceiveRefuses(t *testing.T) {
	_, v := inPair(t, 0)
	for state, begin := range states(t) {
		wantUnchanged(t, "G7: "+state+", refused packets", begin, func(h *hand) {
			wantBytes(t, h.g, nil, api.ErrShort)
			wantBytes(t, h.g, []byte{1, 2, 3}, api.ErrShort)
			wantBytes(t, h.g, make([]byte, 24), api.ErrMagic)
			wantBytes(t, h.g, make([]byte, api.MaxPacket+1), api.ErrLong)
			for kind, p := range oneOfEach(t, v) {
				wantMisled(t, h, kind, p)
			}
		})
	}
}

func wantBytes(t *testing.T, g *group.Group, b []byte, want api.Errno) {
	t.Helper()
	if e := g.Receive(b); e != want {
		t.Fatalf("G7, point 2: Receive of %d bytes: error %d, want %d", len(b), e, want)
	}
}

// wantMisled: points 2 to 4 and 6, for a packet of one kind.
func wantMisled(t *testing.T, h *hand, kind int, p api.Packet) {
	t.Helper()
	p = h.sent(1, 5, kind, p)
	head := p.Head
	gets := func(what string, want api.Errno) {
		t.Helper()
		wantReceive(t, what, h.g, p, want)
		p.Head = head
	}
	b := text(t, p)
	b[len(b)-1]++
	wantBytes(t, h.g, b, api.ErrSum)
	p.Src, p.Dst = 0, 1
	gets("G7, point 3: to another node", api.ErrMisled)
	p.DstInc = 2
	gets("G7, point 3: to an older incarnation", api.ErrMisled)
	p.DstInc = 4
	gets("G7, point 3: to a later incarnation", api.ErrMisled)
	p.Src, p.Dst = 2, 3
	gets("G7, point 3 ahead of 4: from no node to another node", api.ErrMisled)
	p.Src, p.DstInc = 2, 4
	gets("G7, point 3 ahead of 4: from no node to another incarnation", api.ErrMisled)
	p.Src = 2
	gets("G7, point 4: from no node", api.ErrStranger)
	p.Src = api.MaxNodes - 1
	gets("G7, point 4: from no node", api.ErrStranger)
	p.SrcInc = 4
	gets("G7, points 5 and 6: from an older incarnation", api.ErrOld)
	if kind != api.KindBeat {
		p.SrcInc = 6
		gets("G7, point 6: from an incarnation that was never heard", api.ErrStranger)
	}
}

func TestNeverHeard(t *testing.T) {
	h := byHand(t, patient(2), 0, 3)
	h.tick()
	for kind, p := range oneOfEach(t, h.g.View()) {
		if kind != api.KindBeat {
			wantReceive(t, "G7, point 6", h.g, h.sent(1, 1, kind, p), api.ErrStranger)
		}
	}
}

func TestReceiveBeat(t *testing.T) {
	h := alone(t, patient(2))
	wantSend(t, "G4", h.g, []byte("waits"), 1, api.OK)
	beat := func(inc, dstInc, tick int, want api.Errno, hears ...int) {
		t.Helper()
		p := h.sent(1, inc, api.KindBeat, api.Packet{Beat: api.Beat{Tick: tick, Hears: hears}})
		p.DstInc = dstInc
		wantReceive(t, "G7, point 5", h.g, p, want)
	}
	beat(5, 0, 4, api.ErrArg, 3)
	beat(5, 0, 4, api.ErrArg, 3, 5, 0)
	beat(5, 0, 4, api.OK, 3, 5)
	beat(5, 0, 4, api.ErrStale, 3, 5)
	beat(5, 3, 5, api.OK, 3, 5)
	beat(4, 3, 9, api.ErrOld, 3, 5)
	beat(6, 0, 0, api.OK, 3, 6)
	wantQueue(t, "G7, point 5: it is not gone on", h.g, 1)
	wantNotes(t, "G7, point 5: the estimate is looked at in ticks alone", h.g, "")
	h.tick()
	wantNotes(t, "G6: the change is ahead of going on", h.g, "block")
	wantQueue(t, "G6: the change is ahead of going on", h.g, 1)
}

func TestReceivePropose(t *testing.T) {
	h, v := inPair(t, 0)
	p := leaving(v, 7, 0)
	p.Set = []int{3, 6}
	h.propose(1, 5, p, api.ErrSet)
	p = leaving(v, 7, 0)
	p.Vec = []int{0, 8}
	h.propose(1, 5, p, api.ErrSet)
	h.revs = 1
	h.propose(1, 5, leaving(v, 9, 0), api.ErrStale)
	wantNotes(t, "G7, point 7: refused", h.g, "")
	sendMany(t, h, 1, 1)
	h.propose(1, 5, leaving(v, 7, 0), api.OK)
	wantNotes(t, "G7, point 7: the node goes on", h.g, "deliver 0.1 @1 m1")
	wantBlocked(t, "G7, point 7: no change begins by an equal cid", h.g, false)
	sendMany(t, h, 2, 1)
	h.propose(1, 5, leaving(v, 8, 0), api.OK)
	wantNotes(t, "G7, point 7: the change begins ahead of going on", h.g, "block")
}

func TestReceiveFlush(t *testing.T) {
	h, v := inPair(t, 0)
	h.flush(1, 5, content(v, 0, nil, 0, 0, 0), api.ErrArg)
	h.flush(1, 5, content(v, 0, slots(1, 1, 1, 1), 0, 1), api.ErrArg)
	sendMany(t, h, 1, 1)
	h.flush(1, 5, content(v, 0, nil, 0, 0), api.OK)
	wantNotes(t, "G7, point 8: the node goes on", h.g, "deliver 0.1 @1 m1")
	h.flush(1, 5, content(v, 1, nil, 0, 0), api.ErrFork)
	old := content(v, 0, nil, 0, 0)
	old.Prev.Epoch--
	h.flush(1, 5, old, api.ErrStale)
}

func TestReceiveForward(t *testing.T) {
	h, v := inPair(t, 0)
	h.forward(1, 5, forward(v, message(2, 1, nil)), api.ErrArg)
	h.forward(1, 5, forward(v, message(1, 1, nil)), api.ErrPrev)
	h.propose(1, 5, leaving(v, 8, 0), api.OK)
	h.forward(1, 5, forward(v, message(1, 1, nil)), api.OK)
	h.forward(1, 5, forward(v, message(1, 1, []byte("x"))), api.ErrFork)
	other := forward(v, message(1, 1, nil))
	other.Prev.Cid++
	h.forward(1, 5, other, api.ErrPrev)
	h.flush(1, 5, content(v, 0, nil, 0, 0), api.OK)
	h.propose(1, 5, leaving(v, 8, 3), api.OK)
	wantNotes(t, "10.3", h.g, "block; install {3 0 3 3} [{0 3 3} {1 5 8}] trans [0 1] lost 0")
	sendMany(t, h, 1, 1)
	h.forward(1, 5, forward(v, message(1, 1, nil)), api.OK) // the view that was begun last is still the one that ended
	wantNotes(t, "G7, point 8: the node goes on", h.g, "deliver 0.1 @1 m1")
}

func inViewKinds() []int { return []int{api.KindStable, api.KindFrame, api.KindAck} }

func TestReceiveInView(t *testing.T) {
	_, v := inPair(t, 0)
	for _, kind := range inViewKinds() {
		p := oneOfEach(t, v)[kind]
		h := byHand(t, patient(2), 0, 3)
		h.hears(3, 5)
		wantReceive(t, "G7, point 9: no order", h.g, h.sent(1, 5, kind, p), api.ErrView)
		h.tick()
		wantReceive(t, "G7, point 9: no order, in a change", h.g, h.sent(1, 5, kind, p), api.ErrView)

		h = alone(t, patient(2))
		h.beat(1, 5, 3, 5)
		wantReceive(t, "G7, point 9: no member", h.g, h.sent(1, 5, kind, p), api.ErrSender)
		h.tick()
		wantReceive(t, "G7, point 9: blocked ahead of no member", h.g, h.sent(1, 5, kind, p), api.ErrFrozen)
		h.agree(7, 2, api.ViewID{}, 3, 5)
		wantReceive(t, "G7, point 9", h.g, h.sent(1, 5, kind, p), api.OK)
		h.beat(1, 6, 3, 6)
		wantReceive(t, "G7, point 9: another incarnation", h.g, h.sent(1, 6, kind, p), api.ErrStranger)
		wantReceive(t, "G7, point 6: the view's incarnation, but an old one", h.g, h.sent(1, 5, kind, p), api.ErrOld)
		h.tick()
		wantReceive(t, "G7, point 9: blocked ahead of another incarnation", h.g, h.sent(1, 6, kind, p), api.ErrFrozen)
	}
}

func TestReceiveStable(t *testing.T) {
	h, v := inPair(t, 0)
	sendMany(t, h, 1, 1)
	h.tick()
	sendMany(t, h, 2, 1)
	wantNotes(t, "10.4", h.g, "deliver 0.1 @1 m1")
	other := h.sent(1, 5, api.KindStable, api.Packet{Stable: api.Stable{View: v.ID, Done: 1}})
	other.Stable.View.Epoch++
	wantReceive(t, "G7, point 9", h.g, other, api.ErrTag)
	h.stable(1, 5, 2, 2, api.ErrFar)
	wantQueue(t, "G7, point 9: refused", h.g, 1)
	h.stable(1, 5, 0, 0, api.OK)
	wantNotes(t, "G7, point 9: the node goes on", h.g, "deliver 0.2 @2 m2")
	h.stable(1, 5, 1, 0, api.OK)
	wantNotes(t, "G7, point 9", h.g, "safe 1")
}

func TestReceiveAck(t *testing.T) {
	h, v := inPair(t, 1)
	sendMany(t, h, 1, 1)
	h.tick()
	sendMany(t, h, 2, 1)
	other := h.sent(0, 5, api.KindAck, api.Packet{Ack: api.Ack{Tag: v.ID, Upto: 1}})
	other.Ack.Tag.Cid++
	wantReceive(t, "G7, point 9", h.g, other, api.ErrTag)
	h.ack(0, 5, 2, api.ErrFar)
	wantQueue(t, "G7, point 9: refused", h.g, 1)
	h.ack(0, 5, 1, api.OK)
	wantQueue(t, "G7, point 9: the node goes on", h.g, 0)
	wantItems(t, "G7, point 9", items(t, h.tick(), 0), "data 1.2/0 m2")
}

func TestReceiveFrame(t *testing.T) {
	h, v := inPair(t, 0)
	other := h.sent(1, 5, api.KindFrame, api.Packet{Frame: api.Frame{Tag: v.ID, Seq: 1, Body: []byte{1}}})
	other.Frame.Tag.Inc++
	wantReceive(t, "G7, point 9", h.g, other, api.ErrTag)
	h.frame(1, 5, 7, []byte{1}, api.ErrFar)
	wantKinds(t, "G7, point 9: no answer is owed", h.tick(), "1:beat 1:propose 1:stable")

	h.frame(1, 5, 2, data(t, 1, 1, 0, chunk(t, "a")), api.OK) // all of these come out with the first
	h.frame(1, 5, 3, data(t, 1, 3, 0, nil), api.OK)
	h.frame(1, 5, 4, []byte{9}, api.OK)
	h.frame(1, 5, 5, data(t, 1, 2, 0, chunk(t, "b")), api.OK)
	wantNotes(t, "G7, point 9: the first is missing", h.g, "")
	sendMany(t, h, 1, 1)
	h.frame(1, 5, 1, slot(t, 1, 0, 1, 1), api.ErrSender)
	wantNotes(t, "G7, point 9: what cannot be placed is let go, the next is taken, and the node goes on", h.g,
		"deliver 1.1 @1 a; deliver 1.2 @2 b; deliver 0.1 @3 m1")
	if a := first(t, h.tick(), 1, api.KindAck).Ack; a.Upto != 5 {
		t.Fatalf("G7, point 9: what came is answered, but up to %d", a.Upto)
	}

	h, _ = inPair(t, 0) // the first error is the answer, whichever comes behind it
	h.frame(1, 5, 2, []byte{9}, api.OK)
	h.frame(1, 5, 3, data(t, 1, 5, 0, nil), api.OK)
	h.frame(1, 5, 1, data(t, 1, 2, 0, nil), api.ErrGap)
	h.frame(1, 5, 5, data(t, 1, 2, 0, nil), api.OK)
	h.frame(1, 5, 4, []byte{1, 0}, api.ErrShort)
	h.frame(1, 5, 6, data(t, 1, 1, 0, nil)[:4], api.ErrShort)
	h.frame(1, 5, 7, append(data(t, 1, 1, 0, nil), 0), api.ErrTail)
	h.frame(1, 5, 8, data(t, 0, 1, 0, nil), api.ErrSender)
	h.frame(1, 5, 9, data(t, 1, 1, 1, nil), api.ErrFar)
	h.frame(1, 5, 10, data(t, 1, 1, 0, nil), api.OK)
	h.frame(1, 5, 10, []byte{9}, api.OK)
	h.frame(1, 5, 3, []byte{9}, api.OK)
}

// TestFrameGoesOn: though its item was refused.
func TestFrameGoesOn(t *testing.T) {
	h, _ := inPair(t, 0)
	sendMany(t, h, 1, 1)
	h.frame(1, 5, 1, []byte{9}, api.ErrKind)
	wantNotes(t, "G7, point 9", h.g, "deliver 0.1 @1 m1")
}

// TestOtherNet: packets of a group with other nodes.
func TestOtherNet(t *testing.T) {
	h := byHand(t, patient(2), 0, 3)
	p := h.sent(1, 5, api.KindBeat, api.Packet{Beat: api.Beat{Tick: 1, Hears: []int{3, 5, 1}}})
	wantReceive(t, "G7, point 5", h.g, p, api.ErrArg)
	h.hears(3, 5)
	h.tick()
	h.propose(1, 5, api.Propose{Set: []int{3, 5, 1}, Cid: 1, Vec: []int{0, 1, 0}}, api.ErrSet)
}

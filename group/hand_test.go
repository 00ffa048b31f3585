package group_test

import (
	"slices"
	"testing"

	"quorate/api"
	"quorate/frag"
	"quorate/group"
	"quorate/wire"
)

// hand: a Group among nodes that the test plays by hand.
type hand struct {
	t         *testing.T
	g         *group.Group
	self, inc int
	ticks     int // of the others' beats
	revs      int // of the others' proposals
}

func byHand(t *testing.T, c api.Config, self, inc int) *hand {
	t.Helper()
	return &hand{t: t, g: made(t, c, self, inc), self: self, inc: inc, revs: 1}
}

// sent: a packet of the incarnation inc of node q to this one.
func (h *hand) sent(q, inc, kind int, p api.Packet) api.Packet {
	p.Head = api.Head{Kind: kind, Src: q, SrcInc: inc, Dst: h.self, DstInc: h.inc}
	return p
}

func (h *hand) beat(q, inc int, hears ...int) {
	h.t.Helper()
	h.ticks++
	wantReceive(h.t, "G7, point 5", h.g, h.sent(q, inc, api.KindBeat, api.Packet{Beat: api.Beat{Tick: h.ticks, Hears: hears}}), api.OK)
}

func (h *hand) propose(q, inc int, p api.Propose, want api.Errno) {
	h.t.Helper()
	h.revs++
	p.Rev = h.revs
	wantReceive(h.t, "G7, point 7", h.g, h.sent(q, inc, api.KindPropose, api.Packet{Propose: p}), want)
}

func (h *hand) flush(q, inc int, f api.Flush, want api.Errno) {
	h.t.Helper()
	wantReceive(h.t, "G7, point 8", h.g, h.sent(q, inc, api.KindFlush, api.Packet{Flush: f}), want)
}

func (h *hand) forward(q, inc int, f api.Forward, want api.Errno) {
	h.t.Helper()
	wantReceive(h.t, "G7, point 8", h.g, h.sent(q, inc, api.KindForward, api.Packet{Forward: f}), want)
}

func (h *hand) stable(q, inc int, done, prefix int, want api.Errno) {
	h.t.Helper()
	s := api.Stable{View: h.g.View().ID, Done: done, Prefix: prefix}
	wantReceive(h.t, "G7, point 9", h.g, h.sent(q, inc, api.KindStable, api.Packet{Stable: s}), want)
}

func (h *hand) ack(q, inc, upto int, want api.Errno) {
	h.t.Helper()
	a := api.Ack{Tag: h.g.View().ID, Upto: upto}
	wantReceive(h.t, "G7, point 9", h.g, h.sent(q, inc, api.KindAck, api.Packet{Ack: a}), want)
}

func (h *hand) frame(q, inc, seq int, body []byte, want api.Errno) {
	h.t.Helper()
	f := api.Frame{Tag: h.g.View().ID, Seq: seq, Body: body}
	wantReceive(h.t, "G7, point 9", h.g, h.sent(q, inc, api.KindFrame, api.Packet{Frame: f}), want)
}

func (h *hand) tick() []api.Packet {
	h.t.Helper()
	return packets(h.t, ticked(h.t, h.g))
}

// hears lets the others of the set be heard, hearing all of it.
func (h *hand) hears(set ...int) {
	h.t.Helper()
	for q, inc := range set {
		if q != h.self && inc > 0 {
			h.beat(q, inc, set...)
		}
	}
}

// vec: by node of the set this cid, and for self its own.
func (h *hand) vec(set []int, cid, own int) []int {
	l := make([]int, len(set))
	for q, inc := range set {
		if inc > 0 {
			l[q] = cid
		}
	}
	l[h.self] = own
	return l
}

// agree lets the others of the set propose it, with this cid, and with all in their Vec. All of them come from prev (its epoch is their Top), or from a view of their own, if it is none.
func (h *hand) agree(cid, own int, prev api.ViewID, set ...int) {
	h.t.Helper()
	for q, inc := range set {
		if q == h.self || inc == 0 {
			continue
		}
		from := prev
		if prev == (api.ViewID{}) {
			from = api.ViewID{Epoch: 1, Lead: q, Inc: inc, Cid: 1}
		}
		h.propose(q, inc, api.Propose{Set: set, Cid: cid, Top: from.Epoch, Prev: from, Vec: h.vec(set, cid, own)}, api.OK)
	}
}

// join: alone first, and then with the others of the set, who come from views of their own: the own cid is 2, theirs 7.
func (h *hand) join(set ...int) api.View {
	h.t.Helper()
	h.tick()
	h.hears(set...)
	h.tick()
	h.agree(7, 2, api.ViewID{}, set...)
	v := h.g.View()
	wantBlocked(h.t, "10.3: behind all proposals", h.g, false)
	for _, m := range v.Members {
		want := api.Member{Pid: m.Pid, Inc: set[m.Pid], Cid: 7}
		if m.Pid == h.self {
			want.Cid = 2
		}
		if m != want {
			h.t.Fatalf("10.3: the view is %v, want %v in it", v, want)
		}
	}
	h.g.Poll()
	return v
}

// inPair: node self of two (the other one's incarnation is 5, cid 7), in the view {2, ..} with it.
func inPair(t *testing.T, self int) (*hand, api.View) {
	t.Helper()
	return inPairOf(t, patient(2), self)
}

// patient: nobody is suspected for eight ticks.
func patient(nodes int) api.Config { return config(nodes, 2, 8, 1, 8) }

func inPairOf(t *testing.T, c api.Config, self int) (*hand, api.View) {
	t.Helper()
	h := byHand(t, c, self, 3)
	set := []int{5, 5}
	set[self] = 3
	return h, h.join(set...)
}

// chunk: the one chunk of a short blob.
func chunk(t *testing.T, blob string) []byte {
	t.Helper()
	l, e := frag.Split([]byte(blob))
	if e != api.OK || len(l) != 1 {
		t.Fatalf("the test's blob %q has not one chunk", blob)
	}
	return l[0]
}

// data: a message's item, as bytes.
func data(t *testing.T, sender, seq, stable int, body []byte) []byte {
	t.Helper()
	return item(t, api.Item{Kind: api.ItemData, Data: api.Data{Sender: sender, Seq: seq, Stable: stable, Body: body}})
}

// slot: a position's item, as bytes.
func slot(t *testing.T, pos, stable, sender, seq int) []byte {
	t.Helper()
	return item(t, api.Item{Kind: api.ItemSlot, Pos: pos, Stable: stable, Slot: api.Slot{Sender: sender, Seq: seq}})
}

func item(t *testing.T, it api.Item) []byte {
	t.Helper()
	b, e := wire.EncodeItem(it)
	if e != api.OK {
		t.Fatalf("the test's item %+v is none: error %d", it, e)
	}
	return b
}

// items: what the frames to a node hold, in their order.
func items(t *testing.T, l []api.Packet, dst int) []api.Item {
	t.Helper()
	var list []api.Item
	for _, p := range l {
		if p.Kind == api.KindFrame && p.Dst == dst {
			it, e := wire.DecodeItem(p.Frame.Body)
			if e != api.OK {
				t.Fatalf("10.4: a frame's body is no item: error %d", e)
			}
			list = append(list, it)
		}
	}
	return list
}

func sameFlush(a, b api.Flush) bool {
	return a.Prev == b.Prev && a.Base == b.Base && slices.Equal(a.Slots, b.Slots) && slices.Equal(a.Have, b.Have)
}

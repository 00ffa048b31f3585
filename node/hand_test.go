package node_test

import (
	"testing"

	"quorate/api"
	"quorate/frag"
	"quorate/wire"
)

// hand: a node of incarnation 3, whose one other node (incarnation 5) the test plays by hand.
type hand struct {
	t           *testing.T
	n           *rig
	self, other int
	ticks, revs int // of the other one's beats and proposals
	frames      int // of its stream to the node
	seq, pos    int // its messages, and the positions that are given
	last        api.Output
}

// byHand: nobody is suspected for eight ticks.
func byHand(t *testing.T, self int) *hand {
	t.Helper()
	c := config(2)
	c.Base = 8
	return &hand{t: t, n: rigged(t, c, self, 3, api.Disk{}), self: self, other: 1 - self, revs: 1}
}

func (h *hand) step(in api.Input) api.Output {
	h.last = h.n.step(in)
	return h.last
}

func (h *hand) tick() api.Output { return h.step(tick) }

// give hands a packet of the other one in, which must not be refused.
func (h *hand) give(kind int, p api.Packet) api.Output {
	h.t.Helper()
	p.Head = api.Head{Kind: kind, Src: h.other, SrcInc: 5, Dst: h.self, DstInc: 3}
	b, e := wire.Encode(p)
	if e != api.OK {
		h.t.Fatalf("the test's packet %+v is none: error %d", p, e)
	}
	return h.step(packet(b))
}

// beat: the other one hears this incarnation of the node (0: none).
func (h *hand) beat(inc int) {
	h.t.Helper()
	h.ticks++
	hears := []int{5, 5}
	hears[h.self] = inc
	h.give(api.KindBeat, api.Packet{Beat: api.Beat{Tick: h.ticks, Hears: hears}})
}

// propose: the other one wants both as members, in its change cid; it has seen this node's change own.
func (h *hand) propose(cid, own int) {
	h.t.Helper()
	h.revs++
	set, vec := []int{5, 5}, []int{cid, cid}
	set[h.self], vec[h.self] = 3, own
	prev := api.ViewID{Epoch: 1, Lead: h.other, Inc: 5, Cid: 1}
	if v := h.n.View(); len(v.Members) == 2 {
		prev = v.ID
	}
	h.give(api.KindPropose, api.Packet{Propose: api.Propose{Set: set, Cid: cid, Rev: h.revs, Top: prev.Epoch, Prev: prev, Vec: vec}})
}

// join brings both into one view: alone first, and then together.
func (h *hand) join() {
	h.t.Helper()
	h.tick()
	h.beat(3)
	h.tick()
	h.propose(7, 2)
	if v := h.n.View(); len(v.Members) != 2 {
		h.t.Fatalf("10.3: behind both proposals the view is %+v", v)
	}
}

// item gives a piece of the stream.
func (h *hand) item(it api.Item) api.Output {
	h.t.Helper()
	b, e := wire.EncodeItem(it)
	if e != api.OK {
		h.t.Fatalf("the test's item %+v is none: error %d", it, e)
	}
	h.frames++
	return h.give(api.KindFrame, api.Packet{Frame: api.Frame{Tag: h.n.View().ID, Seq: h.frames, Body: b}})
}

// slot places a message, if the other one gives the positions.
func (h *hand) slot(sender, seq int) {
	h.t.Helper()
	h.pos++
	if h.other == 0 {
		h.item(api.Item{Kind: api.ItemSlot, Pos: h.pos, Slot: api.Slot{Sender: sender, Seq: seq}})
	}
}

// send sends a blob of the other one, chunk by chunk.
func (h *hand) send(blob []byte) {
	h.t.Helper()
	chunks, _ := frag.Split(blob)
	for _, c := range chunks {
		h.seq++
		h.item(api.Item{Kind: api.ItemData, Data: api.Data{Sender: h.other, Seq: h.seq, Body: c}})
		h.slot(h.other, h.seq)
	}
}

// stable: the other one has delivered all positions.
func (h *hand) stable() api.Output {
	h.t.Helper()
	return h.give(api.KindStable, api.Packet{Stable: api.Stable{View: h.n.View().ID, Done: h.pos}})
}

// state is the blob of a state without entries.
func state(epoch int) []byte { return join([]byte{1, 1}, logText(epoch, 0, []byte(emptyShot))) }

// command is a command's blob.
func command(safe int, c api.Command) []byte { return join([]byte{1, 2}, counts(safe), text(c)) }

// activate brings both into one view in which the node is active. Its state has one chunk.
func (h *hand) activate() {
	h.t.Helper()
	h.join()
	h.tick()
	h.slot(h.self, 1)
	h.send(state(0))
	h.stable()
	if s := h.n.Status(); s.Mode != api.ModeActive {
		h.t.Fatalf("P15.4: the status behind all states is %+v", s)
	}
}

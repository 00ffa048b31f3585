package node_test

import (
	"strings"
	"testing"

	"quorate/api"
	"quorate/wire"
)

// wantHalted: nothing happens any more, and the queries tell what was.
func wantHalted(t *testing.T, r *rig, v api.View, s api.Status) {
	t.Helper()
	for range 2 {
		for _, in := range []api.Input{tick, packet(nil), send("hi"), do(api.OpGet, "a"), leave, {}, {Kind: 9}} {
			silent(t, "P15.2 and P15.11: behind a halt", r.step(in), api.ErrHalted)
		}
		if !r.Halted() || !sameView(r.View(), v) || r.Status() != s {
			t.Fatalf("P15.8: behind a halt: %v, %+v, %+v, want %+v, %+v", r.Halted(), r.View(), r.Status(), v, s)
		}
	}
}

// TestHaltInTick: P15.6: a counter runs out in a tick.
func TestHaltInTick(t *testing.T) {
	h := byHand(t, 0)
	c := config(2)
	c.Floor, c.Base = api.MaxCount-1, 8
	h.n = rigged(t, c, 0, 3, api.Disk{})
	h.tick()
	h.tick()
	v, s := h.n.View(), h.n.Status()
	if v.ID.Epoch != api.MaxCount || s.Mode != api.ModeActive {
		t.Fatalf("P15.1: in the last epoch: %+v, %+v", v, s)
	}
	h.beat(3)
	if h.n.Halted() {
		t.Fatal("P15.6: halted by a beat")
	}
	wantOutput(t, "P15.6", h.step(send("hi")), []string{`send 0 3 id=4611686018427387904/0/3/4611686018427387904 seq=2 body="\x00hi"`}, nil, 0, api.OK)
	wantOutput(t, "P15.6", h.tick(), []string{`halt 0 3 n=1`}, nil, 0, api.ErrHalted)
	s.Mode = api.ModeIdle
	wantHalted(t, h.n, v, s)
}

// TestHaltInPacket: P15.6: a counter runs out in a packet.
func TestHaltInPacket(t *testing.T) {
	h := byHand(t, 0)
	c := config(2)
	c.Floor, c.Base = api.MaxCount-2, 8
	h.n = rigged(t, c, 0, 3, api.Disk{})
	h.tick()
	h.beat(3)
	h.tick()
	h.propose(7, api.MaxCount)
	v, s := h.n.View(), h.n.Status()
	if len(v.Members) != 2 || v.ID.Epoch != api.MaxCount {
		t.Fatalf("10.3: the last view is %+v", v)
	}
	h.revs++
	p := api.Propose{Set: []int{0, 5}, Cid: 8, Rev: h.revs, Top: 1, Prev: v.ID, Vec: []int{0, 8}}
	p.Prev.Epoch = 1
	wantOutput(t, "P15.6", h.give(api.KindPropose, api.Packet{Propose: p}), []string{`halt 0 3 n=1`}, nil, 0, api.ErrHalted)
	s.Mode = api.ModeIdle
	wantHalted(t, h.n, v, s)
}

// TestHaltInCompact: P15.5 and P15.6: the journal's generations run out. Nothing else of the tick is done.
func TestHaltInCompact(t *testing.T) {
	r := rigged(t, config(3), 1, 4, sized(api.MaxCount, 16385))
	o := r.step(tick)
	wantOutput(t, "P15.6", o, []string{`halt 1 4 n=1`}, nil, 0, api.ErrSpent)
	wantHalted(t, r, api.View{}, api.Status{Promise: 200})
	r = rigged(t, config(3), 1, 4, sized(api.MaxCount, 16384)) // not long
	if o := r.step(tick); o.Err != api.OK || len(o.Out) != 2 {
		t.Fatalf("P15.2: a journal that is not long: %+v", o)
	}
}

// fillJournal lets commands of the other node come, without a tick, until the journal has no room for one more.
func fillJournal(t *testing.T, h *hand, one func(req int) api.Output) api.Output {
	t.Helper()
	for req := 1; req < 5000; req++ {
		ahead := len(h.n.disk.A)
		if o := one(req); h.n.Halted() {
			if len(h.n.disk.A) < api.MaxFile-100 {
				t.Fatalf("P15.5: halted with a journal of %d bytes", len(h.n.disk.A))
			}
			return o
		}
		if n := len(h.n.disk.A); n > api.MaxFile || n == ahead {
			t.Fatalf("P15.10: the journal has %d bytes behind %d commands", n, req)
		}
	}
	t.Fatal("P15.5: no halt")
	return api.Output{}
}

// TestHaltInAppend: P15.5 and P15.6: the journal is full in the midst of a step.
func TestHaltInAppend(t *testing.T) {
	h := byHand(t, 1)
	h.activate()
	v := h.n.View()
	o := fillJournal(t, h, func(req int) api.Output {
		h.send(command(req-1, set(0, 5, req, "key", "value")))
		if h.n.Halted() {
			return h.last
		}
		return h.stable()
	})
	if o.Err != api.ErrLong || len(o.Out) > 0 || len(o.Marks) != 2 || lines(t, o.Marks[1:]) != `halt 1 3 n=1` {
		t.Fatalf("P15.6: %v, error %d", lines(t, o.Marks), o.Err)
	}
	for _, m := range o.Marks {
		if m.Kind != api.MarkDeliver && m.Kind != api.MarkSafe && m.Kind != api.MarkHalt {
			t.Fatalf("P15.6: the step goes on behind the halt: %v", lines(t, o.Marks))
		}
	}
	wantHalted(t, h.n, v, h.n.Status())
	_, again := made(t, config(2), 1, 4, h.n.disk)
	if last := again.Marks[len(again.Marks)-1]; last.Kind != api.MarkApply || last.N < 1000 {
		t.Fatalf("P15.9: the next incarnation tells %v", lines(t, again.Marks[len(again.Marks)-1:]))
	}
}

// TestHaltBetweenRecords: P15.6: of a step that needs two records the first stays, if there is room for it alone.
func TestHaltBetweenRecords(t *testing.T) {
	for spare := range 40 {
		h := byHand(t, 1)
		h.activate()
		o := fillJournal(t, h, func(req int) api.Output {
			val := "v"
			if req <= spare { // each spare one shifts where the records end
				val = "va"
			}
			h.send(command(req-1, set(0, 5, req, "k", val)))
			o := h.last
			if !h.n.Halted() {
				h.pos-- // of the last one it does not tell that it has it: that comes with the next command
				h.stable()
				h.pos++
			}
			return o
		})
		if len(o.Write) == 0 {
			continue
		}
		if l := appended(t, o.Write); len(l) != 1 || l[0].Kind != api.RecSafe || o.Err != api.ErrLong {
			t.Fatalf("P15.6: the writes are %v, error %d", l, o.Err)
		}
		if o.Marks[len(o.Marks)-1].Kind != api.MarkHalt || len(o.Marks) != 2 {
			t.Fatalf("P15.6: the marks are %v", lines(t, o.Marks))
		}
		return
	}
	t.Error("the test is too weak")
}

// TestGarbage: P15.10: bytes that are no packet change nothing.
func TestGarbage(t *testing.T) {
	plain, r := alone(t), alone(t)
	beat, _ := wire.Encode(api.Packet{Head: api.Head{Kind: api.KindBeat, Src: 1, SrcInc: 4, Dst: 0}, Beat: api.Beat{Tick: 1, Hears: []int{0, 4}}})
	for _, b := range []string{"", "Q", "QV\x01", strings.Repeat("\xff", 50000), string(beat[:len(beat)-1]), string(beat) + "x"} {
		if o := r.step(packet([]byte(b))); o.Err == api.OK || len(o.Out)+len(o.Marks)+len(o.Write) > 0 {
			t.Fatalf("P15.10: %d bytes: %+v", len(b), o)
		}
	}
	for range 3 {
		if a, b := r.step(tick), plain.step(tick); !sameOutput(a, b) {
			t.Fatalf("P15.10: behind garbage a tick answers %+v, want %+v", a, b)
		}
	}
}

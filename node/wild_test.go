package node_test

import (
	"bytes"
	"math/rand"
	"slices"
	"testing"

	"quorate/api"
	"quorate/node"
)

// TestWild: P15.1 to P15.8 and P15.10 to P15.11, held against the model at every step of stories in which anything comes: altered packets, spent counters, no room.
func TestWild(t *testing.T) {
	seen := map[string]int{}
	for seed := range 150 {
		r := rand.New(rand.NewSource(int64(seed)))
		c := drawnConfig(r)
		switch r.Intn(6) {
		case 0:
			c.Floor = api.MaxCount - 1 - r.Intn(8)
		case 1:
			c.Room = 1 + r.Intn(30)
		}
		n := netOf(t, r, c, drawnDisks(r, c.Nodes), seen)
		n.false = r.Intn(3) > 0
		n.watch = func(m api.Mark) {
			if m.Kind == api.MarkHalt && m.N != 1 {
				t.Fatalf("P15.10: node %d halts for a panic", m.Node)
			}
		}
		n.begin()
		n.live(9)
	}
	for what, least := range map[string]int{
		"altered": 3000, "halts": 15, "behind halts": 100, "full": 100, "adopts": 500, "answers": 500, "entries": 1000, "leaves": 30, "refusals": 1000, "torn": 60,
	} {
		if seen[what] < least {
			t.Errorf("%d %s: the test is too weak", seen[what], what)
		}
	}
}

// TestAnyBytes: P15.10: nodes in one view are handed bytes of all kinds, very often; each step is held against the model.
func TestAnyBytes(t *testing.T) {
	r := rand.New(rand.NewSource(5))
	took := map[api.Errno]int{}
	for range 60 {
		n := netOf(t, r, config(3), make([]api.Disk, 3), map[string]int{})
		n.begin()
		for range 20 {
			n.round(n.ask)
		}
		sent := n.ether.Flights()
		for k := range 1500 {
			f := sent[r.Intn(len(sent))]
			switch k % 3 {
			case 0:
				f.Bytes = make([]byte, r.Intn(60))
				r.Read(f.Bytes)
			case 1:
				f.Bytes = altered(r, f.Bytes, 3)
			}
			x := n.at[f.Dst]
			o := x.step(packet(f.Bytes))
			if len(o.Out) > 0 {
				t.Fatal("P15.2: a packet makes packets")
			}
			took[o.Err]++
			if k%20 == 0 {
				for _, o := range x.step(tick).Out {
					sent = append(sent, api.Flight{Dst: o.Dst, Bytes: o.Bytes})
				}
			}
		}
	}
	if took[api.OK] < 5000 || took[api.ErrHalted] > 45000 || len(took) < 15 {
		t.Errorf("the packets' errors are %v: the test is too weak", took)
	}
}

// TestDriven: P15.10 and P12: commands in great number, without a tick and with some: the journal stays within its bound.
func TestDriven(t *testing.T) {
	h := byHand(t, 1)
	h.activate()
	for req := 1; req < 3000 && !h.n.Halted(); req++ {
		h.send(command(req-1, set(0, 5, req, "k", "v")))
		if !h.n.Halted() {
			h.stable()
		}
		if max(len(h.n.disk.A), len(h.n.disk.B)) > api.MaxFile {
			t.Fatalf("P15.10: the journal has %d bytes", len(h.n.disk.A))
		}
	}
	if !h.n.Halted() || h.last.Err != api.ErrLong {
		t.Fatal("P15.10: a journal that is never compacted does not fill up")
	}
	h = byHand(t, 1)
	h.activate()
	for req := 1; req < 3000; req++ {
		h.send(command(req-1, set(0, 5, req, "k", "v")))
		h.stable()
		if req%100 == 0 {
			h.beat(3)
			h.tick()
		}
		if n := max(len(h.n.disk.A), len(h.n.disk.B)); n > 30000 || h.n.Halted() {
			t.Fatalf("P15.2: with ticks the journal has %d bytes, halted %v", n, h.n.Halted())
		}
	}
	if b := h.n.Status().Base; b != 2999 {
		t.Fatalf("P9: %d entries are done, want 2999", b)
	}
}

// FuzzStep: P15.10: Step answers to any bytes, in any inputs, and no part breaks.
func FuzzStep(f *testing.F) {
	f.Add([]byte("\x01\x01\x03hi\x04ax\x01\x02\x05QV\x01\x01\x00\x05"))
	f.Fuzz(func(t *testing.T, b []byte) {
		n, _, _ := node.New(config(2), 0, 1, api.Disk{})
		for len(b) > 0 {
			in := api.Input{Kind: int(b[0] % 8)}
			size := min(int(b[0]/8), len(b)-1)
			in.Bytes = bytes.Clone(b[1 : 1+size])
			in.Cmd = api.Command{Op: size % 11, Key: string(in.Bytes), Val: "1"}
			b = b[1+size:]
			o := n.Step(in)
			if slices.ContainsFunc(o.Marks, func(m api.Mark) bool { return m.Kind == api.MarkHalt }) {
				t.Fatalf("P15.10: a halt: %+v", o)
			}
		}
	})
}

package group_test

import (
	"slices"
	"testing"

	"quorate/api"
	"quorate/group"
)

func TestExampleAlone(t *testing.T) {
	g := made(t, usual(2), 0, 1) // 1
	if v := g.View(); len(v.Members) != 0 {
		t.Errorf("example 1: View %v", v)
	}
	wantBlocked(t, "example 1", g, true)
	wantSend(t, "example 1", g, []byte("x"), 0, api.ErrBlocked)
	l := packets(t, ticked(t, g))
	wantKinds(t, "example 1", l, "1:beat")
	wantBeat(t, "example 1", l[0], 1, 1, 0)
	wantNotes(t, "example 1", g, "install {1 0 1 1} [{0 1 1}] trans [0] lost 0")
	wantBlocked(t, "example 1", g, false)

	wantSend(t, "example 2", g, []byte("x"), 1, api.OK) // 2
	wantNotes(t, "example 2", g, "")
	ticked(t, g)
	wantNotes(t, "example 2", g, "deliver 0.1 @1 x; safe 1")
}

func wantBeat(t *testing.T, what string, p api.Packet, tick int, hears ...int) {
	t.Helper()
	if p.Kind != api.KindBeat || p.DstInc != 0 || p.Beat.Tick != tick || !slices.Equal(p.Beat.Hears, hears) {
		t.Fatalf("%s: %+v, want a Beat with Tick %d, Hears %v, DstInc 0", what, p, tick, hears)
	}
}

// play lets rounds go by and holds each node's notes of each round against words.
func play(t *testing.T, what string, n *round, want [][2]string) {
	t.Helper()
	for _, w := range want {
		n.go1(t, nil)
		for p, g := range n.groups {
			wantNotes(t, what, g, w[p])
		}
	}
}

func TestExampleTwo(t *testing.T) {
	n := rounds(t, usual(2))
	play(t, "example 3", n, [][2]string{ // 3
		{"install {1 0 1 1} [{0 1 1}] trans [0] lost 0", "install {1 1 1 1} [{1 1 1}] trans [1] lost 0"},
		{"", ""},
		{"block", "block"},
	})
	for p, l := range n.out {
		own := first(t, packets(t, l), 1-p, api.KindPropose).Propose
		vec := []int{0, 0}
		vec[p] = 2
		want := api.Propose{Set: []int{1, 1}, Cid: 2, Rev: own.Rev, Top: 1, Prev: api.ViewID{Epoch: 1, Lead: p, Inc: 1, Cid: 1}, Vec: vec}
		if !samePropose(own, want) {
			t.Fatalf("example 3: node %d proposes %+v, want %+v", p, own, want)
		}
	}
	play(t, "example 3", n, [][2]string{
		{"", ""},
		{"install {2 0 1 2} [{0 1 2} {1 1 2}] trans [0] lost 0", "install {2 0 1 2} [{0 1 2} {1 1 2}] trans [1] lost 0"},
	})
	wantSend(t, "example 4", n.groups[1], []byte("y"), 1, api.OK) // 4
	play(t, "example 4", n, [][2]string{{"", ""}, {"deliver 1.1 @1 y", ""}, {"", "deliver 1.1 @1 y; safe 1"}, {"safe 1", ""}})
}

func samePropose(a, b api.Propose) bool {
	return slices.Equal(a.Set, b.Set) && a.Cid == b.Cid && a.Rev == b.Rev && a.Top == b.Top && a.Prev == b.Prev && slices.Equal(a.Vec, b.Vec)
}

func TestExampleLeave(t *testing.T) {
	n := rounds(t, usual(2)) // 5
	for range 5 {
		n.go1(t, nil)
	}
	for _, g := range n.groups {
		g.Poll()
	}
	if e := n.groups[1].Leave(); e != api.OK {
		t.Fatalf("example 5: Leave: error %d", e)
	}
	play(t, "example 5", n, [][2]string{{"", "block; install {3 1 1 3} [{1 1 3}] trans [1] lost 0"}})
	l := packets(t, n.out[1])
	wantKinds(t, "example 5", l, "0:beat")
	wantBeat(t, "example 5", l[0], 6, 0, 0)
	play(t, "example 5", n, [][2]string{{"block; install {3 0 1 3} [{0 1 3}] trans [0] lost 0", ""}})
	for range 40 {
		play(t, "example 5: never again in a view with the other", n, [][2]string{{"", ""}})
	}
}

func TestReadme(t *testing.T) {
	c := api.Config{Nodes: 2, Window: 2, Base: 2, Step: 1, Cap: 8, Room: 100, Votes: []int{1, 1}}
	a, e := group.New(c, 0, 1)
	if e != api.OK {
		t.Fatalf("README: error %d", e)
	}
	b, e := group.New(c, 1, 1)
	if e != api.OK {
		t.Fatalf("README: error %d", e)
	}
	var fromA, fromB []api.Out
	for range 5 {
		for _, o := range fromB {
			e = a.Receive(o.Bytes)
		}
		for _, o := range fromA {
			e = b.Receive(o.Bytes)
		}
		fromA, e = a.Tick()
		fromB, e = b.Tick()
	}
	if v := a.View(); v.ID != (api.ViewID{Epoch: 2, Lead: 0, Inc: 1, Cid: 2}) || len(v.Members) != 2 || !sameView(v, b.View()) {
		t.Fatalf("README: the view is %v", v)
	}
	wantNotes(t, "README", a, "install {1 0 1 1} [{0 1 1}] trans [0] lost 0; block; install {2 0 1 2} [{0 1 2} {1 1 2}] trans [0] lost 0")
	wantSend(t, "README", b, []byte("y"), 1, api.OK)
	fromB, e = b.Tick()
	for _, o := range fromB {
		e = a.Receive(o.Bytes)
	}
	if e != api.OK {
		t.Fatalf("README: error %d", e)
	}
	wantNotes(t, "README", a, "deliver 1.1 @1 y")
}

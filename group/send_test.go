package group_test

import (
	"bytes"
	"strings"
	"testing"

	"quorate/api"
)

// alone: a Group of one node of n, in its first view, polled.
func alone(t *testing.T, c api.Config) *hand {
	t.Helper()
	h := byHand(t, c, 0, 3)
	h.tick()
	h.g.Poll()
	return h
}

func TestSendRefuses(t *testing.T) {
	long := make([]byte, api.MaxBlob+1)
	fresh := made(t, usual(2), 0, 1)
	wantSend(t, "G4: too long ahead of blocked", fresh, long, 0, api.ErrBlob)
	wantSend(t, "G4: no view", fresh, nil, 0, api.ErrBlocked)

	g := alone(t, usual(2)).g
	wantSend(t, "G4: too long", g, long, 0, api.ErrBlob)
	wantSend(t, "G4: the longest", g, long[:api.MaxBlob], 1, api.OK)
	wantQueue(t, "G4", g, 17)
	wantSend(t, "G4: too long ahead of busy", g, long, 0, api.ErrBlob)
	wantSend(t, "G4: 17 and 16", g, make([]byte, 15*248+1), 0, api.ErrBusy)
	wantQueue(t, "G4: refused", g, 17)
	wantSend(t, "G4: 17 and 15", g, make([]byte, 15*248), 2, api.OK)
	wantQueue(t, "G4", g, api.MaxQueue)
	wantSend(t, "G4: full", g, nil, 0, api.ErrBusy)
	wantNotes(t, "G4: nothing is sent yet", g, "")
	wantQueue(t, "G3: Poll does nothing else", g, api.MaxQueue)
	ticked(t, g)
	wantQueue(t, "10.4", g, 0)
	wantSend(t, "G4: refused ones have no number", g, nil, 3, api.OK)
}

func TestSendBlocked(t *testing.T) {
	h, _ := inPair(t, 0)
	wantSend(t, "G4", h.g, []byte("a"), 1, api.OK)
	wantSend(t, "G4", h.g, make([]byte, 14*248), 2, api.OK)
	wantSend(t, "G4", h.g, make([]byte, api.MaxBlob), 3, api.OK)
	wantQueue(t, "G4", h.g, api.MaxQueue)
	h.propose(1, 5, api.Propose{Set: []int{3, 5}, Cid: 8, Top: 2, Prev: h.g.View().ID, Vec: []int{0, 8}}, api.OK)
	wantNotes(t, "10.3", h.g, "block")
	wantSend(t, "G11: blocked ahead of busy", h.g, nil, 0, api.ErrBlocked)
	wantSend(t, "G11: too long ahead of blocked", h.g, make([]byte, api.MaxBlob+1), 0, api.ErrBlob)
	wantQueue(t, "G2: what is in the queue stays there till the install", h.g, api.MaxQueue)
}

func TestNumbersAnew(t *testing.T) {
	h := alone(t, usual(2))
	for k := range 3 {
		wantSend(t, "G4", h.g, nil, k+1, api.OK)
	}
	set := []int{3, 5}
	h.hears(set...)
	h.tick()
	wantNotes(t, "10.3: nothing was sent, all is lost", h.g, "block")
	h.agree(7, 2, api.ViewID{}, set...)
	wantNotes(t, "10.3", h.g, "install {2 0 3 2} [{0 3 2} {1 5 7}] trans [0] lost 3")
	wantQueue(t, "10.3, point 5: the queue", h.g, 0)
	wantSend(t, "10.3, point 5: accepted", h.g, []byte("n"), 1, api.OK)
	h.tick()
	wantNotes(t, "10.3, point 5: whole", h.g, "deliver 0.1 @1 n")
}

func TestAloneDelivers(t *testing.T) {
	for window := 1; window <= api.MaxWindow; window++ {
		g := alone(t, config(1, window, 1, 1, 1)).g
		pos := 0
		for k := range 40 {
			size := k * k * 2
			blob := bytes.Repeat([]byte(string(rune('a'+k%26))), size)
			wantSend(t, "G14", g, blob, k+1, api.OK)
			if l := ticked(t, g); len(l) != 0 {
				t.Fatalf("G6: one node alone gives out %d packets", len(l))
			}
			var got []api.Note
			for _, n := range g.Poll() {
				switch n.Kind {
				case api.NoteDeliver:
					got = append(got, n)
				case api.NoteSafe:
					if pos = n.Pos; pos > 1<<20 {
						t.Fatalf("G3: safe %d", pos)
					}
				}
			}
			if len(got) != 1 || got[0].Seq != k+1 || got[0].Sender != 0 || got[0].Pos != pos || !bytes.Equal(got[0].Body, blob) {
				t.Fatalf("G14: behind one tick: %s, safe %d", words(got), pos)
			}
		}
	}
}

func TestManyChunks(t *testing.T) {
	g := alone(t, config(1, 2, 1, 1, 1)).g
	wantSend(t, "G4", g, []byte(strings.Repeat("x", 249)), 1, api.OK)
	wantSend(t, "G4", g, nil, 2, api.OK)
	wantSend(t, "G4", g, []byte(strings.Repeat("y", 3*248)), 3, api.OK)
	wantQueue(t, "G4", g, 6)
	ticked(t, g)
	wantNotes(t, "G3: the position of the last chunk", g, "deliver 0.1 @2 xxxxxxxx..(249); safe 2; deliver 0.2 @3 ; safe 4; deliver 0.3 @6 yyyyyyyy..(744); safe 6")
}

func TestLeave(t *testing.T) {
	n := rounds(t, usual(3))
	n.settled(t)
	if e := n.groups[0].Leave(); e != api.OK {
		t.Fatalf("G5: Leave: error %d", e)
	}
	wantNotes(t, "G5: it begins with the next tick", n.groups[0], "")
	wantBlocked(t, "G5: it begins with the next tick", n.groups[0], false)
	id := n.groups[0].View().ID
	n.go1(t, nil)
	v := n.groups[0].View()
	if len(v.Members) != 1 || v.ID.Epoch != id.Epoch+1 {
		t.Fatalf("G5: behind its next tick it is in %v", v)
	}
	for range 30 {
		n.go1(t, nil)
		if e := n.groups[0].Leave(); e != api.OK {
			t.Fatalf("G5: Leave again: error %d", e)
		}
	}
	if w := n.groups[0].View(); !sameView(v, w) {
		t.Fatalf("G5: it stays alone, but is in %v", w)
	}
	for p := 1; p < 3; p++ {
		if v := n.groups[p].View(); len(v.Members) != 2 || v.Members[0].Pid != 1 {
			t.Fatalf("G5: the others are in %v", v)
		}
	}
}

func TestLeaveAlone(t *testing.T) {
	h := byHand(t, usual(2), 0, 3)
	if e := h.g.Leave(); e != api.OK {
		t.Fatalf("G5: Leave ahead of the first tick: error %d", e)
	}
	wantBeat(t, "G5", h.tick()[0], 1, 0, 0)
	wantNotes(t, "G5", h.g, "install {1 0 3 1} [{0 3 1}] trans [0] lost 0")
	h.hears(3, 5)
	wantKinds(t, "G5", h.tick(), "1:beat")
	wantNotes(t, "G5: who was alone stays in its view", h.g, "")
	wantSend(t, "G5: and goes on in it", h.g, []byte("s"), 1, api.OK)
	h.tick()
	wantNotes(t, "G5: and goes on in it", h.g, "deliver 0.1 @1 s; safe 1")
}

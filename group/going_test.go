package group_test

import (
	"fmt"
	"strings"
	"testing"

	"quorate/api"
)

// sendMany: so many short blobs, numbered from the first on.
func sendMany(t *testing.T, h *hand, first, count int) {
	t.Helper()
	for k := range count {
		wantSend(t, "G4", h.g, fmt.Appendf(nil, "m%d", first+k), first+k, api.OK)
	}
}

func TestNotesStop(t *testing.T) {
	h := byHand(t, config(1, 8, 1, 1, 1), 0, 3)
	h.tick() // one note: the install
	sendMany(t, h, 1, 32)
	h.tick() // four turns of eight and a safe: 37
	sendMany(t, h, 33, 32)
	h.tick() // three turns more: 64; the last eight messages are sent, and wait
	wantQueue(t, "10.4: sending goes on", h.g, 0)
	sendMany(t, h, 65, 5)
	h.tick()
	h.tick()
	wantQueue(t, "10.4: nothing is free", h.g, 5)
	l := h.g.Poll()
	if len(l) != api.MaxNotes || word(l[61]) != "deliver 0.55 @55 m55" || word(l[62]) != "deliver 0.56 @56 m56" || word(l[63]) != "safe 56" {
		t.Fatalf("10.4: unpolled there are %d notes: %s", len(l), words(l))
	}
	wantNotes(t, "G3: Poll does not go on", h.g, "")
	wantQueue(t, "G3: Poll does not go on", h.g, 5)
	h.tick()
	wantNotes(t, "10.4", h.g, "deliver 0.57 @57 m57; deliver 0.58 @58 m58; deliver 0.59 @59 m59; deliver 0.60 @60 m60; deliver 0.61 @61 m61; "+
		"deliver 0.62 @62 m62; deliver 0.63 @63 m63; deliver 0.64 @64 m64; safe 64; "+
		"deliver 0.65 @65 m65; deliver 0.66 @66 m66; deliver 0.67 @67 m67; deliver 0.68 @68 m68; deliver 0.69 @69 m69; safe 69")
}

func TestSafeWaitsForRoom(t *testing.T) {
	h := byHand(t, config(1, 3, 1, 1, 1), 0, 3)
	h.tick()
	sendMany(t, h, 1, 32)
	h.tick() // 1 + 10 turns of 3 + 1, one of 2 + 1: 44
	sendMany(t, h, 33, 20)
	h.tick() // four turns of 3 + 1: 60; then three deliveries and a safe: 64
	if l := h.g.Poll(); len(l) != 64 || word(l[63]) != "safe 47" {
		t.Fatalf("10.4: %d notes, the last is %s", len(l), word(l[len(l)-1]))
	}
	h = byHand(t, config(1, 7, 1, 1, 1), 0, 3)
	h.tick()
	sendMany(t, h, 1, 32)
	h.tick() // 1 + 4 turns of 7 + 1, one of 4 + 1: 38
	sendMany(t, h, 33, 30)
	h.tick() // three turns of 7 + 1: 62; then two deliveries, and no room for a safe; for these two, two more are sent
	l := h.g.Poll()
	if len(l) != 64 || word(l[63]) != "deliver 0.55 @55 m55" {
		t.Fatalf("10.4: %d notes, the last is %s", len(l), word(l[len(l)-1]))
	}
	h.tick()
	wantNotes(t, "10.4", h.g, "deliver 0.56 @56 m56; deliver 0.57 @57 m57; deliver 0.58 @58 m58; deliver 0.59 @59 m59; deliver 0.60 @60 m60; deliver 0.61 @61 m61; deliver 0.62 @62 m62; safe 62")
}

// TestSafeTold: the seven deliveries fill the notes up just so that the safe has to wait.
func TestSafeTold(t *testing.T) {
	h := byHand(t, config(1, 7, 1, 1, 1), 0, 3)
	h.tick()
	for k := range 7 { // 1 + 7 times 8: 57
		sendMany(t, h, 1+7*k, 7)
		h.tick()
	}
	sendMany(t, h, 50, 7)
	h.tick()
	if l := h.g.Poll(); len(l) != 64 || word(l[63]) != "deliver 0.56 @56 m56" {
		t.Fatalf("10.4: %d notes, the last is %s", len(l), word(l[len(l)-1]))
	}
	h.tick()
	wantNotes(t, "10.4: safe is told as soon as there is room", h.g, "safe 56")
}

// TestTurnAgain: one delivery, with which the notes are full, lets the next chunk go out: all four are done again.
func TestTurnAgain(t *testing.T) {
	h := byHand(t, config(2, 1, 8, 1, 8), 1, 3)
	h.tick()
	for k := range 30 { // with the first install 61 notes, with the block and the next install 63
		wantSend(t, "G4", h.g, nil, k+1, api.OK)
		h.tick()
	}
	h.hears(5, 3)
	h.tick()
	h.agree(7, 2, api.ViewID{}, 5, 3)
	sendMany(t, h, 1, 2)
	h.tick()
	wantQueue(t, "10.4", h.g, 1)
	h.stable(0, 5, 1, 0, api.OK) // it is ahead
	h.frame(0, 5, 1, slot(t, 1, 0, 1, 1), api.OK)
	wantQueue(t, "10.4: again and again", h.g, 0)
	if l := h.g.Poll(); len(l) != api.MaxNotes || word(l[63]) != "deliver 1.1 @1 m1" {
		t.Fatalf("10.4: %d notes, the last is %s", len(l), word(l[len(l)-1]))
	}
}

func TestSending(t *testing.T) {
	h, _ := inPair(t, 1) // not the sequencer, window 2
	sendMany(t, h, 1, 5)
	l := items(t, h.tick(), 0)
	wantQueue(t, "10.4, point 1: as many as are free", h.g, 3)
	wantItems(t, "10.4, point 1", l, "data 1.1/0 m1; data 1.2/0 m2")
	l = items(t, h.tick(), 0)
	wantItems(t, "G6: frames come again till they are answered", l, "data 1.1/0 m1; data 1.2/0 m2")
	h.ack(0, 5, 1, api.OK)
	wantItems(t, "G6", items(t, h.tick(), 0), "data 1.2/0 m2")
	wantNotes(t, "10.4: no position is known", h.g, "")

	h.frame(0, 5, 1, slot(t, 1, 0, 1, 1), api.OK)
	wantNotes(t, "10.4, point 3", h.g, "deliver 1.1 @1 m1")
	wantQueue(t, "10.4: it is not safe yet", h.g, 3)
	h.stable(0, 5, 1, 0, api.OK)
	wantNotes(t, "10.4, point 4", h.g, "safe 1")
	wantQueue(t, "10.4, point 1: one more is free", h.g, 2)
	p := h.tick()
	wantItems(t, "10.4, point 1: with the prefix", items(t, p, 0), "data 1.2/0 m2; data 1.3/1 m3")
	if s := first(t, p, 0, api.KindStable).Stable; s.Done != 1 || s.Prefix != 1 || s.View != h.g.View().ID {
		t.Fatalf("G6: a Stable is %+v", s)
	}
	if a := first(t, p, 0, api.KindAck).Ack; a.Upto != 1 || a.Tag != h.g.View().ID {
		t.Fatalf("G6: an Ack is %+v", a)
	}
	wantKinds(t, "G6: an answer is owed once", h.tick(), "0:beat 0:stable 0:frame 0:frame")
}

func wantItems(t *testing.T, what string, l []api.Item, want string) {
	t.Helper()
	var s []string
	for _, it := range l {
		if it.Kind == api.ItemData {
			s = append(s, fmt.Sprintf("data %d.%d/%d %s", it.Data.Sender, it.Data.Seq, it.Data.Stable, short(it.Data.Body[8:])))
		} else {
			s = append(s, fmt.Sprintf("slot %d/%d %d.%d", it.Pos, it.Stable, it.Slot.Sender, it.Slot.Seq))
		}
	}
	if got := strings.Join(s, "; "); got != want {
		t.Fatalf("%s: the items are %q, want %q", what, got, want)
	}
}

func TestPlacing(t *testing.T) {
	h, _ := inPair(t, 0) // the sequencer, window 2
	h.frame(1, 5, 1, data(t, 1, 1, 0, chunk(t, "a")), api.OK)
	wantNotes(t, "10.4, points 2 and 3", h.g, "deliver 1.1 @1 a")
	sendMany(t, h, 1, 3)
	p := h.tick()
	wantItems(t, "10.4: the slots too go to all others", items(t, p, 1), "slot 1/0 1.1; data 0.1/0 m1; data 0.2/0 m2; slot 2/0 0.1; slot 3/0 0.2")
	wantNotes(t, "10.4, point 3", h.g, "deliver 0.1 @2 m1; deliver 0.2 @3 m2")
	h.stable(1, 5, 3, 0, api.OK)
	wantNotes(t, "10.4: in their order", h.g, "deliver 0.3 @4 m3; safe 3")
	wantItems(t, "10.1: so many frames ahead of an answer", items(t, h.tick(), 1)[5:], "data 0.3/3 m3")
	h.ack(1, 5, 5, api.OK)
	wantItems(t, "10.4", items(t, h.tick(), 1), "data 0.3/3 m3; slot 4/3 0.3")
}

// TestRoom: who does not answer stops the senders: no more than twice the frames are kept for it.
func TestRoom(t *testing.T) {
	h := byHand(t, config(3, 1, 8, 1, 8), 0, 3)
	h.join(3, 5, 6)
	room := 2 * 1 * 4
	for k := 1; k <= room/2; k++ { // a data and a slot each, for both others; node 2 answers nothing
		wantSend(t, "G4", h.g, []byte("m"), k, api.OK)
		h.tick()
		wantQueue(t, "10.4", h.g, 0)
		wantNotes(t, "10.4", h.g, fmt.Sprintf("deliver 0.%d @%d m", k, k))
		h.ack(1, 5, 2*k, api.OK)
		h.stable(1, 5, k, 0, api.OK)
		h.stable(2, 6, k, 0, api.OK)
		wantNotes(t, "10.4", h.g, fmt.Sprintf("safe %d", k))
	}
	wantSend(t, "G4", h.g, []byte("stopped"), 5, api.OK)
	h.tick()
	wantQueue(t, "10.4, point 1: there is no room for node 2", h.g, 1)
	h.frame(1, 5, 1, data(t, 1, 1, 0, chunk(t, "b")), api.OK)
	wantNotes(t, "10.4, point 2: no position is given without room for its slot", h.g, "")
	h.ack(2, 6, 1, api.OK)
	wantQueue(t, "10.4: sending is done ahead of placing", h.g, 0)
	wantNotes(t, "10.4: no room for the slots", h.g, "")
	h.ack(2, 6, 2, api.OK)
	wantNotes(t, "10.4: room for one slot: what came first", h.g, "deliver 1.1 @5 b")
	h.ack(2, 6, 4, api.OK)
	wantNotes(t, "10.4", h.g, "deliver 0.5 @6 stopped")
	if l := items(t, h.tick(), 2); len(l) != 4 {
		t.Fatalf("10.1: the Mux sends %d frames ahead of an answer, want 4", len(l))
	}
}

package order_test

import (
	"math"
	"testing"

	"quorate/api"
	"quorate/order"
)

// none are numbers of which no more than nothing is asked for.
func none() []int { return []int{math.MinInt, -api.MaxCount, -1, 0} }

// TestAssignNothing: not by another than the sequencer, not for less than one, not frozen, not twice.
func TestAssignNothing(t *testing.T) {
	wantUnchanged(t, "O5: Assign of nothing", func(o *order.Order) {
		for _, most := range none() {
			wantAssign(t, o, most)
		}
	})
	for _, make := range []func(*testing.T) *order.Order{atSecond, atFrozen} {
		o := make(t)
		wantAssign(t, o, api.MaxCount)
		wantSame(t, "O5: Assign at another than the sequencer", view(0, 2, 5), 2, o, make(t))
	}
	o, twin := atFirst(t), atFirst(t)
	o.Freeze()
	twin.Freeze()
	wantAssign(t, o, api.MaxCount)
	wantSame(t, "O5, O9: Assign of a frozen Order", view(0, 2, 5), 0, o, twin)
	o = atFirst(t)
	wantAssign(t, o, math.MaxInt, slot(4, 1, 2, 2), slot(5, 1, 0, 2))
	wantAssign(t, o, math.MaxInt)
}

// TestAssignAsTheyCame: who came first is first, whoever sent it, over any cutting into calls.
func TestAssignAsTheyCame(t *testing.T) {
	for step := 1; step <= 8; step++ {
		o := made(t, view(3, 5, 9), 3, 3)
		wantPlace(t, o, 9, data(9, 1, 0, "a"), api.OK)
		wantSend(t, o, "b", api.Data{Sender: 3, Seq: 1})
		wantPlace(t, o, 5, data(5, 1, 0, "c"), api.OK)
		wantPlace(t, o, 9, data(9, 2, 0, "d"), api.OK)
		wantPlace(t, o, 5, data(5, 2, 0, "e"), api.OK)
		wantSend(t, o, "f", api.Data{Sender: 3, Seq: 2})
		want := []api.Item{slot(1, 0, 9, 1), slot(2, 0, 3, 1), slot(3, 0, 5, 1), slot(4, 0, 9, 2), slot(5, 0, 5, 2), slot(6, 0, 3, 2)}
		for len(want) > 0 {
			n := min(step, len(want))
			wantAssign(t, o, step, want[:n]...)
			want = want[n:]
		}
		wantDeliver(t, o, 99, "1 9/1 a, 2 3/1 b, 3 5/1 c, 4 9/2 d, 5 5/2 e, 6 3/2 f")
		wantPlace(t, o, 9, data(9, 3, 0, "g"), api.OK)
		wantAssign(t, o, step, slot(7, 0, 9, 3))
	}
}

// TestAssignByTheFirstMember: whomever the ID names.
func TestAssignByTheFirstMember(t *testing.T) {
	v := view(2, 5)
	v.ID.Lead = 5
	two, five := made(t, v, 2, 1), made(t, v, 5, 1)
	if _, e := five.Send(nil); e != api.OK {
		t.Fatalf("O2: error %d", e)
	}
	wantAssign(t, five, 9)
	wantSend(t, two, "", api.Data{Sender: 2, Seq: 1})
	wantAssign(t, two, 9, slot(1, 0, 2, 1))
	wantPlace(t, five, 2, slot(1, 0, 2, 1), api.OK)
	wantPlace(t, two, 5, slot(1, 0, 5, 1), api.ErrSender)
}

// TestAssignStable: each position carries the Prefix of its giving.
func TestAssignStable(t *testing.T) {
	o := atFirst(t)
	wantHear(t, o, 5, stable(2, 0), api.OK)
	wantAssign(t, o, 1, slot(4, 2, 2, 2))
	wantDeliver(t, o, 1, "3 0/1 c")
	wantHear(t, o, 5, stable(3, 3), api.OK)
	wantAssign(t, o, 1, slot(5, 3, 0, 2))
}

// TestAssignAll: as many as can be held in the greatest view there is.
func TestAssignAll(t *testing.T) {
	pids := make([]int, api.MaxNodes)
	for p := range pids {
		pids[p] = p
	}
	o := made(t, view(pids...), 0, api.MaxWindow)
	for seq := 1; seq <= api.MaxWindow; seq++ {
		wantSend(t, o, "m", api.Data{Sender: 0, Seq: seq})
		for _, p := range pids[1:] {
			wantPlace(t, o, p, data(p, seq, 0, "m"), api.OK)
		}
	}
	if n := len(o.Assign(math.MaxInt)); n != api.MaxHeld {
		t.Fatalf("O5: %d positions, want %d", n, api.MaxHeld)
	}
	wantNoSend(t, o, nil, api.ErrWindow)
	wantPlace(t, o, 7, data(7, 9, 0, "m"), api.ErrWindow)
	wantAssign(t, o, math.MaxInt)
	if f := o.Content(16); len(f.Slots) != api.MaxHeld || o.Held() != api.MaxHeld {
		t.Fatalf("O14: %d positions, %d held, want %d of both", len(f.Slots), o.Held(), api.MaxHeld)
	}
	if n := len(o.Deliver(math.MaxInt)); n != api.MaxHeld {
		t.Fatalf("O6: %d delivered, want %d", n, api.MaxHeld)
	}
	for _, p := range pids[1:] {
		wantStand(t, o, stand{done: api.MaxHeld, held: api.MaxHeld, sent: 8, delivered: 8})
		wantHear(t, o, p, stable(api.MaxHeld, 0), api.OK)
	}
	wantStand(t, o, stand{done: api.MaxHeld, prefix: api.MaxHeld, free: 8, sent: 8, delivered: 8})
}

// TestDeliverNothing: not for less than one, not frozen, not where nothing can be.
func TestDeliverNothing(t *testing.T) {
	wantUnchanged(t, "O6: Deliver of nothing", func(o *order.Order) {
		for _, most := range none() {
			wantDeliver(t, o, most, "")
		}
	})
	for _, b := range busyOnes() {
		o, twin := b.make(t), b.make(t)
		o.Freeze()
		twin.Freeze()
		wantDeliver(t, o, api.MaxCount, "")
		wantSame(t, "O6, O9: Deliver of a frozen Order", view(0, 2, 5), b.self, o, twin)
	}
	o := atSecond(t)
	wantDeliver(t, o, api.MaxCount, "")
	wantSame(t, "O6: Deliver where the next message is not here", view(0, 2, 5), 2, o, atSecond(t))
}

// TestDeliverMost: as many as are asked for and no more.
func TestDeliverMost(t *testing.T) {
	for most, want := range map[int]string{
		1: "1 4/1 a", 2: "1 4/1 a, 2 1/1 b", 3: "1 4/1 a, 2 1/1 b, 3 4/2 c",
		4: "1 4/1 a, 2 1/1 b, 3 4/2 c", api.MaxCount: "1 4/1 a, 2 1/1 b, 3 4/2 c", math.MaxInt: "1 4/1 a, 2 1/1 b, 3 4/2 c",
	} {
		o := made(t, view(1, 4), 1, 2)
		wantPlace(t, o, 4, data(4, 1, 0, "a"), api.OK)
		wantSend(t, o, "b", api.Data{Sender: 1, Seq: 1})
		wantPlace(t, o, 4, data(4, 2, 0, "c"), api.OK)
		wantAssign(t, o, 9, slot(1, 0, 4, 1), slot(2, 0, 1, 1), slot(3, 0, 4, 2))
		wantDeliver(t, o, most, want)
		if done := min(most, 3); o.Done() != done || o.Prefix() != 0 {
			t.Errorf("O6: behind Deliver(%d) Done is %d, Prefix %d", most, o.Done(), o.Prefix())
		}
		if _, n := o.Own(); n != min(most-1, 1) {
			t.Errorf("O8: behind Deliver(%d) %d of the own are delivered", most, n)
		}
	}
}

// TestDeliverGap: what comes behind a message that is missing waits for it.
func TestDeliverGap(t *testing.T) {
	o := made(t, view(1, 4, 6), 4, 2)
	wantPlace(t, o, 6, data(6, 1, 0, "b"), api.OK)
	wantSend(t, o, "c", api.Data{Sender: 4, Seq: 1})
	wantPlace(t, o, 1, slot(1, 0, 1, 1), api.OK)
	wantPlace(t, o, 1, slot(2, 0, 6, 1), api.OK)
	wantDeliver(t, o, 9, "")
	wantPlace(t, o, 1, data(1, 1, 0, "a"), api.OK)
	wantDeliver(t, o, 9, "1 1/1 a, 2 6/1 b")
	wantDeliver(t, o, 9, "")
	wantPlace(t, o, 1, slot(3, 0, 4, 1), api.OK)
	wantDeliver(t, o, 9, "3 4/1 c")
	wantStand(t, o, stand{done: 3, held: 3, free: 1, sent: 1, delivered: 1})
}

// TestDeliverAlone: in a view of one the Prefix follows Done at once, and no further.
func TestDeliverAlone(t *testing.T) {
	o := made(t, view(6), 6, 2)
	wantSend(t, o, "a", api.Data{Sender: 6, Seq: 1})
	wantSend(t, o, "b", api.Data{Sender: 6, Seq: 2})
	wantAssign(t, o, 9, slot(1, 0, 6, 1), slot(2, 0, 6, 2))
	wantStand(t, o, stand{held: 2, sent: 2})
	wantDeliver(t, o, 1, "1 6/1 a")
	wantStand(t, o, stand{done: 1, prefix: 1, held: 1, free: 1, sent: 2, delivered: 1})
	wantDeliver(t, o, 1, "2 6/2 b")
	wantStand(t, o, stand{done: 2, prefix: 2, free: 2, sent: 2, delivered: 2})
}

// TestDeliverRaises: what the others have told counts as soon as it is delivered here too.
func TestDeliverRaises(t *testing.T) {
	o := made(t, view(1, 4, 6), 4, 3)
	for pos := 1; pos <= 3; pos++ {
		wantPlace(t, o, 1, data(1, pos, 0, "m"), api.OK)
		wantPlace(t, o, 1, slot(pos, 0, 1, pos), api.OK)
	}
	wantHear(t, o, 1, stable(3, 0), api.OK)
	wantHear(t, o, 6, stable(2, 0), api.OK)
	wantStand(t, o, stand{held: 3, free: 3})
	wantDeliver(t, o, 1, "1 1/1 m")
	wantStand(t, o, stand{done: 1, prefix: 1, held: 2, free: 3})
	wantDeliver(t, o, 9, "2 1/2 m, 3 1/3 m")
	wantStand(t, o, stand{done: 3, prefix: 2, held: 1, free: 3})
	wantMessages(t, o, message(1, 3, 0, "m"))
}

package order_test

import (
	"strings"
	"testing"

	"quorate/api"
	"quorate/order"
)

// TestPlaceFrom: who is no member, or is self, is refused ahead of all else.
func TestPlaceFrom(t *testing.T) {
	wantUnchanged(t, "O4: items from no other member", func(o *order.Order) {
		self := 0
		if _, delivered := o.Own(); delivered > 0 {
			self = 2
		}
		for _, from := range append(far(), 1, 3, 4, 6, 15, 16, self) {
			wantPlace(t, o, from, data(from, 1, 0, "x"), api.ErrSender)
			wantPlace(t, o, from, data(self, 3, 0, "x"), api.ErrSender)
			wantPlace(t, o, from, slot(4, 0, 5, 2), api.ErrSender)
			wantPlace(t, o, from, api.Item{}, api.ErrSender)
			wantPlace(t, o, from, data(5, -1, 99, strings.Repeat("x", 300)), api.ErrSender)
		}
	})
}

// invalid are items that are none, each for one reason.
func invalid() []api.Item {
	var l []api.Item
	for _, kind := range append(far(), 0, 3, 256+api.ItemData, 256+api.ItemSlot) {
		it, other := data(5, 1, 0, "x"), slot(4, 0, 5, 1)
		it.Kind, other.Kind = kind, kind
		l = append(l, it, other, api.Item{Kind: kind})
	}
	for _, n := range far() {
		l = append(l, data(n, 1, 0, "x"), data(5, n, 0, "x"), data(5, 1, n, "x"))
		l = append(l, slot(n, 0, 5, 1), slot(4, n, 5, 1), slot(4, 0, n, 1), slot(4, 0, 5, n))
	}
	l = append(l, data(16, 1, 0, "x"), data(5, 0, 0, "x"), data(5, 1, 0, strings.Repeat("x", api.MaxChunk+1)))
	l = append(l, slot(0, 0, 5, 1), slot(4, 4, 5, 1), slot(4, 5, 5, 1), slot(1, 1, 5, 1), slot(4, 0, 16, 1), slot(4, 0, 5, 0))
	return append(l, twofold()...)
}

// twofold are items in which the other kind's part is not zero.
func twofold() []api.Item {
	var l []api.Item
	for _, n := range []int{-1, 1, 5} {
		for k := range 7 {
			d, s := data(5, 1, 0, "x"), slot(4, 0, 5, 1)
			*[]*int{&d.Pos, &d.Stable, &d.Slot.Sender, &d.Slot.Seq, &s.Data.Sender, &s.Data.Seq, &s.Data.Stable}[k] = n
			if k < 4 {
				l = append(l, d)
			} else {
				l = append(l, s)
			}
		}
	}
	s := slot(4, 0, 5, 1)
	s.Data.Body = []byte("x")
	return append(l, s)
}

// TestPlaceInvalid: what is no item is refused ahead of the frozen Order's and all other errors.
func TestPlaceInvalid(t *testing.T) {
	wantUnchanged(t, "O4: items that are none", func(o *order.Order) {
		from := 0
		if _, delivered := o.Own(); delivered == 0 {
			from = 2
		}
		for _, it := range invalid() {
			wantPlace(t, o, 5, it, api.ErrArg)
			wantPlace(t, o, from, it, api.ErrArg)
		}
	})
}

// TestPlaceFrozen: valid items, whatever else is amiss with them.
func TestPlaceFrozen(t *testing.T) {
	for _, b := range busyOnes() {
		o, twin := b.make(t), b.make(t)
		o.Freeze()
		twin.Freeze()
		other := 2 - b.self
		for _, it := range []api.Item{data(5, 1, 0, "x"), data(5, 2, 0, "x"), data(9, 9, 9, ""), slot(4, 0, 5, 2), slot(4, 0, 2, 2), slot(9, 8, 9, 9)} {
			wantPlace(t, o, 5, it, api.ErrFrozen)
			wantPlace(t, o, other, it, api.ErrFrozen)
			wantPlace(t, o, b.self, it, api.ErrSender)
		}
		wantSame(t, "O4, O9: items for a frozen Order", view(0, 2, 5), b.self, o, twin)
	}
}

// refused are an item's makings and the error that it must give.
type refused struct {
	from int
	it   api.Item
	want api.Errno
}

func wantAllRefused(t *testing.T, b busyOne, cases []refused) {
	t.Helper()
	o := b.make(t)
	for _, c := range cases {
		wantPlace(t, o, c.from, c.it, c.want)
	}
	wantSame(t, "O4: a refused item", view(0, 2, 5), b.self, o, b.make(t))
}

// TestPlaceData: the errors of a data in their order, each with all later ones in it as far as that can be.
func TestPlaceData(t *testing.T) {
	wantAllRefused(t, busyOne{0, atFirst}, []refused{
		{2, data(5, 2, 0, "x"), api.ErrSender}, {5, data(2, 3, 0, "x"), api.ErrSender}, {5, data(0, 3, 0, "x"), api.ErrSender},
		{5, data(1, 1, 0, "x"), api.ErrSender}, {5, data(15, 9, api.MaxCount, "x"), api.ErrSender},
		{5, data(5, 1, 0, "b"), api.ErrGap}, {5, data(5, 3, 0, "x"), api.ErrGap}, {5, data(5, api.MaxCount, 0, "x"), api.ErrGap},
		{5, data(5, 3, 9, "x"), api.ErrGap}, {2, data(2, 4, 9, "x"), api.ErrGap}, {5, data(5, 3, 2, "x"), api.ErrGap},
		{5, data(5, 2, 3, "x"), api.ErrFar}, {5, data(5, 2, api.MaxCount, "x"), api.ErrFar},
		{2, data(2, 2, 1, "d"), api.ErrGap},
	})
	wantAllRefused(t, busyOne{2, atSecond}, []refused{
		{0, data(5, 1, 0, "x"), api.ErrSender}, {5, data(2, 3, 0, "x"), api.ErrSender},
		{5, data(5, 2, 0, "x"), api.ErrGap}, {0, data(0, 1, 0, "x"), api.ErrGap}, {5, data(5, 1, 3, "x"), api.ErrFar},
	})
}

// TestPlaceDataTaken: the edges of what is taken.
func TestPlaceDataTaken(t *testing.T) {
	o := atSecond(t)
	long := strings.Repeat("x", api.MaxChunk)
	wantPlace(t, o, 5, data(5, 1, 0, long), api.OK)
	wantStand(t, o, stand{done: 2, prefix: 1, held: 3, free: 1, sent: 2, delivered: 1})
	wantPlace(t, o, 5, data(5, 2, 2, ""), api.OK)
	wantStand(t, o, stand{done: 2, prefix: 2, held: 3, free: 1, sent: 2, delivered: 1})
	wantMessages(t, o, message(2, 2, 0, "b"), message(5, 1, 0, long), message(5, 2, 2, ""))
	wantSeen(t, o, 0, 2, 5)
	wantSeen(t, atFirst(t), 0, 2, 5)
	fresh := made(t, view(0, 2, 5), 2, 2)
	wantPlace(t, fresh, 5, data(5, 1, 0, "x"), api.OK)
	wantPlace(t, fresh, 0, slot(1, 0, 5, 1), api.OK)
	wantSeen(t, fresh, 2)
}

// TestPlaceDataWindow: a sender's messages that are held fill its window; the prefix rises all the same, and what it drops counts no more.
func TestPlaceDataWindow(t *testing.T) {
	o := atFirst(t)
	wantPlace(t, o, 2, data(2, 3, 1, "e"), api.OK)
	wantPlace(t, o, 2, data(2, 4, 0, "f"), api.ErrWindow)
	wantStand(t, o, stand{done: 2, prefix: 1, held: 5, sent: 2})
	wantPlace(t, o, 2, data(2, 4, 2, "f"), api.ErrWindow)
	wantStand(t, o, stand{done: 2, prefix: 2, held: 4, sent: 2})
	wantMessages(t, o, message(0, 1, 0, "c"), message(0, 2, 1, ""), message(2, 2, 1, "d"), message(2, 3, 1, "e"))
	wantPlace(t, o, 2, data(2, 4, 3, "f"), api.ErrFar)
	wantAssign(t, o, 1, slot(4, 2, 2, 2))
	wantDeliver(t, o, 9, "3 0/1 c, 4 2/2 d")
	wantPlace(t, o, 2, data(2, 4, 3, "f"), api.ErrWindow)
	wantStand(t, o, stand{done: 4, prefix: 3, held: 3, free: 1, sent: 2, delivered: 1})
	wantPlace(t, o, 2, data(2, 4, 4, "f"), api.OK)
	wantStand(t, o, stand{done: 4, prefix: 4, held: 3, free: 1, sent: 2, delivered: 1})
	wantPlace(t, o, 5, data(5, 2, 0, "g"), api.OK)
	wantPlace(t, o, 5, data(5, 3, 0, "h"), api.OK)
	wantPlace(t, o, 5, data(5, 4, 0, "i"), api.ErrWindow)
	wantAssign(t, o, 9, slot(5, 4, 0, 2), slot(6, 4, 2, 3), slot(7, 4, 2, 4), slot(8, 4, 5, 2), slot(9, 4, 5, 3))
}

// TestPlaceSlot: the errors of a slot in their order, each with all later ones in it as far as that can be.
func TestPlaceSlot(t *testing.T) {
	wantAllRefused(t, busyOne{0, atFirst}, []refused{
		{2, slot(4, 0, 2, 2), api.ErrSender}, {5, slot(4, 0, 5, 2), api.ErrSender}, {5, slot(9, 8, 9, 9), api.ErrSender},
	})
	wantAllRefused(t, busyOne{2, atSecond}, []refused{
		{5, slot(4, 0, 2, 2), api.ErrSender}, {5, slot(9, 8, 5, 9), api.ErrSender},
		{0, slot(4, 0, 1, 1), api.ErrSender}, {0, slot(4, 0, 15, 1), api.ErrSender}, {0, slot(9, 8, 3, 9), api.ErrSender},
		{0, slot(3, 0, 2, 2), api.ErrGap}, {0, slot(5, 0, 2, 2), api.ErrGap}, {0, slot(1, 0, 2, 2), api.ErrGap}, {0, slot(api.MaxCount, 0, 2, 2), api.ErrGap},
		{0, slot(2, 0, 2, 2), api.ErrGap}, {0, slot(5, 3, 2, 2), api.ErrGap}, {0, slot(5, 2, 2, 2), api.ErrGap},
		{0, slot(4, 0, 2, 1), api.ErrGap}, {0, slot(4, 0, 2, 3), api.ErrGap}, {0, slot(4, 0, 0, 1), api.ErrGap}, {0, slot(4, 0, 5, 1), api.ErrGap}, {0, slot(4, 0, 5, 3), api.ErrGap},
		{0, slot(4, 3, 2, 1), api.ErrGap}, {0, slot(4, 2, 2, api.MaxCount), api.ErrGap},
		{0, slot(4, 3, 2, 2), api.ErrFar}, {0, slot(4, 3, 5, 2), api.ErrFar},
	})
}

// TestPlaceSlotTaken: a position is known whether its message is here or not, self's messages that were not sent too; the prefix rises with it.
func TestPlaceSlotTaken(t *testing.T) {
	o := atSecond(t)
	wantPlace(t, o, 0, slot(4, 0, 2, 2), api.OK)
	wantStand(t, o, stand{done: 2, prefix: 1, held: 2, free: 1, sent: 2, delivered: 1})
	wantPlace(t, o, 0, slot(5, 2, 5, 2), api.OK)
	wantStand(t, o, stand{done: 2, prefix: 2, held: 1, free: 1, sent: 2, delivered: 1})
	wantPlace(t, o, 0, slot(6, 0, 2, 3), api.OK)
	wantContent(t, o, 2, []api.Slot{{Sender: 5, Seq: 1}, {Sender: 2, Seq: 2}, {Sender: 5, Seq: 2}, {Sender: 2, Seq: 3}}, 1, 0, 2)
	empty := slot(7, 0, 0, 2)
	empty.Data.Body = []byte{}
	wantPlace(t, o, 0, empty, api.OK)
	wantPlace(t, o, 5, data(5, 1, 0, "p"), api.OK)
	wantDeliver(t, o, 9, "3 5/1 p, 4 2/2 b")
	wantPlace(t, o, 5, data(5, 2, 0, "q"), api.OK)
	wantSend(t, o, "r", api.Data{Sender: 2, Seq: 3, Stable: 2})
	wantPlace(t, o, 0, data(0, 2, 0, "s"), api.OK)
	wantDeliver(t, o, 9, "5 5/2 q, 6 2/3 r, 7 0/2 s")
	wantStand(t, o, stand{done: 7, prefix: 2, held: 5, free: 0, sent: 3, delivered: 3})
}

// TestPlaceSlotWindow: members times the window many positions behind the prefix; the prefix rises all the same.
func TestPlaceSlotWindow(t *testing.T) {
	for _, window := range []int{1, 2, api.MaxWindow} {
		o := made(t, view(1, 4, 8), 4, window)
		most := 3 * window
		wantPlace(t, o, 8, data(8, 1, 0, "m"), api.OK)
		for pos := 1; pos <= most; pos++ {
			wantPlace(t, o, 1, slot(pos, 0, 8, pos), api.OK)
		}
		wantPlace(t, o, 1, slot(most+1, 0, 8, most+1), api.ErrWindow)
		wantPlace(t, o, 1, slot(most+1, 0, 1, 1), api.ErrWindow)
		wantPlace(t, o, 1, slot(most+1, 1, 8, most+1), api.ErrFar)
		wantStand(t, o, stand{held: 1, free: window})
		wantDeliver(t, o, 9, "1 8/1 m")
		wantPlace(t, o, 1, slot(most+1, 0, 8, most+1), api.ErrWindow)
		wantPlace(t, o, 1, slot(most+1, 1, 8, most+1), api.OK)
		wantStand(t, o, stand{done: 1, prefix: 1, free: window})
		wantPlace(t, o, 1, slot(most+2, 1, 8, most+2), api.ErrWindow)
		if n := len(o.Content(16).Slots); n != most {
			t.Fatalf("O4: %d positions are known behind the Prefix, want %d", n, most)
		}
	}
}

// TestPlaceSlotFullAndRisen: a slot that is not taken leaves the prefix risen.
func TestPlaceSlotFullAndRisen(t *testing.T) {
	o := made(t, view(1, 4), 4, 1)
	wantPlace(t, o, 1, data(1, 1, 0, "a"), api.OK)
	wantSend(t, o, "b", api.Data{Sender: 4, Seq: 1})
	wantPlace(t, o, 1, slot(1, 0, 1, 1), api.OK)
	wantPlace(t, o, 1, slot(2, 0, 4, 1), api.OK)
	wantDeliver(t, o, 1, "1 1/1 a")
	wantPlace(t, o, 1, slot(3, 0, 4, 2), api.ErrWindow)
	wantPlace(t, o, 1, slot(3, 1, 4, 2), api.OK)
	wantPlace(t, o, 1, slot(4, 1, 4, 3), api.ErrWindow)
	wantStand(t, o, stand{done: 1, prefix: 1, held: 1, sent: 1})
	wantDeliver(t, o, 9, "2 4/1 b")
	wantHear(t, o, 1, stable(2, 2), api.OK)
	wantStand(t, o, stand{done: 2, prefix: 2, free: 1, sent: 1, delivered: 1})
	wantContent(t, o, 2, []api.Slot{{Sender: 4, Seq: 2}}, 0, 1, 0, 0, 1)
}

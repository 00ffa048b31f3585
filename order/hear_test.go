package order_test

import (
	"testing"

	"quorate/api"
	"quorate/order"
)

// TestHearWho: who is no member, or is self, is refused ahead of all else.
func TestHearWho(t *testing.T) {
	wantUnchanged(t, "O7: told by no other member", func(o *order.Order) {
		self := 0
		if _, delivered := o.Own(); delivered > 0 {
			self = 2
		}
		for _, q := range append(far(), 1, 3, 4, 6, 15, 16, self) {
			wantHear(t, o, q, stable(2, 0), api.ErrSender)
			wantHear(t, o, q, stable(-1, 3), api.ErrSender)
			wantHear(t, o, q, api.Stable{Done: 9, Prefix: 9}, api.ErrSender)
		}
	})
}

// otherIDs are IDs that differ from the view's in one number, and some that are nobody's.
func otherIDs() []api.ViewID {
	l := []api.ViewID{{}, {Epoch: -1, Lead: -1, Inc: -1, Cid: -1}}
	for k := range 4 {
		id := viewID
		*[]*int{&id.Epoch, &id.Lead, &id.Inc, &id.Cid}[k]++
		l = append(l, id)
	}
	return l
}

// TestHearNumbers: their bounds, ahead of the ID and of the frozen Order.
func TestHearNumbers(t *testing.T) {
	wantUnchanged(t, "O7: numbers that cannot be", func(o *order.Order) {
		for _, id := range append(otherIDs(), viewID) {
			for _, n := range far() {
				wantHear(t, o, 5, api.Stable{View: id, Done: n}, api.ErrArg)
				wantHear(t, o, 5, api.Stable{View: id, Done: 2, Prefix: n}, api.ErrArg)
				wantHear(t, o, 5, api.Stable{View: id, Done: n, Prefix: n}, api.ErrArg)
			}
			wantHear(t, o, 5, api.Stable{View: id, Done: 1, Prefix: 2}, api.ErrArg)
			wantHear(t, o, 5, api.Stable{View: id, Done: 0, Prefix: 1}, api.ErrArg)
		}
	})
}

// TestHearOfAnother: an ID that is another's, ahead of the frozen Order and of a Prefix that is too far.
func TestHearOfAnother(t *testing.T) {
	wantUnchanged(t, "O7: of another view", func(o *order.Order) {
		for _, id := range otherIDs() {
			wantHear(t, o, 5, api.Stable{View: id, Done: 2}, api.ErrTag)
			wantHear(t, o, 5, api.Stable{View: id, Done: api.MaxCount, Prefix: api.MaxCount}, api.ErrTag)
		}
	})
}

// TestHearFrozenAndFar: the frozen Order ahead of a Prefix that is too far; with neither anything has changed.
func TestHearFrozenAndFar(t *testing.T) {
	for _, b := range busyOnes() {
		o, twin := b.make(t), b.make(t)
		o.Freeze()
		twin.Freeze()
		for _, s := range []api.Stable{stable(0, 0), stable(2, 2), stable(3, 3), stable(api.MaxCount, api.MaxCount)} {
			wantHear(t, o, 5, s, api.ErrFrozen)
		}
		wantSame(t, "O7, O9: what a frozen Order hears", view(0, 2, 5), b.self, o, twin)
	}
	for _, b := range busyOnes()[:2] {
		o := b.make(t)
		wantHear(t, o, 5, stable(3, 3), api.ErrFar)
		wantHear(t, o, 5, stable(9, 3), api.ErrFar)
		wantHear(t, o, 5, stable(api.MaxCount, api.MaxCount), api.ErrFar)
		wantSame(t, "O7: a Prefix that is too far", view(0, 2, 5), b.self, o, b.make(t))
	}
}

// TestSeenByHearing: only what is taken makes a member seen.
func TestSeenByHearing(t *testing.T) {
	o := made(t, view(0, 2, 5), 2, 2)
	wantHear(t, o, 5, stable(1, 1), api.ErrFar)
	wantHear(t, o, 5, api.Stable{Done: 1}, api.ErrTag)
	wantHear(t, o, 5, stable(0, 1), api.ErrArg)
	wantSeen(t, o, 2)
	wantHear(t, o, 5, stable(0, 0), api.OK)
	wantSeen(t, o, 2, 5)
	wantHear(t, o, 5, stable(0, 0), api.OK)
	o.Freeze()
	wantHear(t, o, 0, stable(0, 0), api.ErrFrozen)
	wantSeen(t, o, 2, 5)
}

// ahead is node 4 of 1, 4, 6 with the window 3; all three positions are known, two of them delivered.
func ahead(t *testing.T) *order.Order {
	t.Helper()
	o := made(t, view(1, 4, 6), 4, 3)
	for pos := 1; pos <= 3; pos++ {
		wantPlace(t, o, 1, data(1, pos, 0, "m"), api.OK)
		wantPlace(t, o, 1, slot(pos, 0, 1, pos), api.OK)
	}
	wantDeliver(t, o, 2, "1 1/1 m, 2 1/2 m")
	return o
}

// TestHearLeast: the least of all counts, whoever tells it last; what is told less is no news.
func TestHearLeast(t *testing.T) {
	o := ahead(t)
	wantHear(t, o, 1, stable(2, 0), api.OK)
	wantStand(t, o, stand{done: 2, held: 3, free: 3})
	wantHear(t, o, 6, stable(1, 0), api.OK)
	wantStand(t, o, stand{done: 2, prefix: 1, held: 2, free: 3})
	wantHear(t, o, 1, stable(0, 0), api.OK)
	wantHear(t, o, 6, stable(2, 0), api.OK)
	wantStand(t, o, stand{done: 2, prefix: 2, held: 1, free: 3})
	wantHear(t, o, 6, stable(1, 1), api.OK)
	wantStand(t, o, stand{done: 2, prefix: 2, held: 1, free: 3})
}

// TestHearPrefix: what a member knows of all is taken from it, though the others have told nothing here; up to Done.
func TestHearPrefix(t *testing.T) {
	o := ahead(t)
	wantHear(t, o, 6, stable(1, 1), api.OK)
	wantStand(t, o, stand{done: 2, prefix: 1, held: 2, free: 3})
	wantHear(t, o, 6, stable(9, 2), api.OK)
	wantStand(t, o, stand{done: 2, prefix: 2, held: 1, free: 3})
	wantHear(t, o, 6, stable(9, 3), api.ErrFar)
	wantDeliver(t, o, 9, "3 1/3 m")
	wantStand(t, o, stand{done: 3, prefix: 2, held: 1, free: 3})
	wantHear(t, o, 6, stable(9, 3), api.OK)
	wantStand(t, o, stand{done: 3, prefix: 3, free: 3})
}

// TestHearAhead: a member may have delivered what is not known here.
func TestHearAhead(t *testing.T) {
	o := ahead(t)
	wantHear(t, o, 1, stable(api.MaxCount, 0), api.OK)
	wantHear(t, o, 6, stable(4, 0), api.OK)
	wantStand(t, o, stand{done: 2, prefix: 2, held: 1, free: 3})
	wantPlace(t, o, 1, slot(4, 0, 6, 1), api.OK)
	wantPlace(t, o, 1, slot(5, 0, 6, 2), api.OK)
	wantPlace(t, o, 6, data(6, 1, 0, "n"), api.OK)
	wantPlace(t, o, 6, data(6, 2, 0, "o"), api.OK)
	wantDeliver(t, o, 9, "3 1/3 m, 4 6/1 n, 5 6/2 o")
	wantStand(t, o, stand{done: 5, prefix: 4, held: 1, free: 3})
}

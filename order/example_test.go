package order_test

import (
	"testing"

	"quorate/api"
)

// TestExamples: section 7.4, 1 to 6, line by line.
func TestExamples(t *testing.T) {
	v := view(0, 2, 5)
	zero, two := made(t, v, 0, 2), made(t, v, 2, 2)

	wantSend(t, two, "a", api.Data{Sender: 2, Seq: 1}) // 1
	wantSend(t, two, "b", api.Data{Sender: 2, Seq: 2})
	wantNoSend(t, two, []byte("c"), api.ErrWindow)
	wantStand(t, two, stand{held: 2, sent: 2})
	wantDeliver(t, two, 9, "")
	wantAssign(t, two, 9)

	wantPlace(t, zero, 2, data(2, 2, 0, "b"), api.ErrGap) // 2
	wantPlace(t, zero, 5, data(2, 1, 0, "a"), api.ErrSender)
	wantPlace(t, zero, 2, data(2, 1, 0, "a"), api.OK)
	wantPlace(t, zero, 2, data(2, 2, 1, "b"), api.ErrFar)
	wantPlace(t, zero, 2, data(2, 2, 0, "b"), api.OK)
	wantPlace(t, zero, 2, data(2, 3, 0, "x"), api.ErrWindow)

	wantSend(t, zero, "z", api.Data{Sender: 0, Seq: 1}) // 3
	wantAssign(t, zero, 2, slot(1, 0, 2, 1), slot(2, 0, 2, 2))
	wantAssign(t, zero, 9, slot(3, 0, 0, 1))
	wantDeliver(t, zero, 2, "1 2/1 a, 2 2/2 b")
	wantStand(t, zero, stand{done: 2, held: 3, free: 1, sent: 1})

	wantPlace(t, two, 0, slot(1, 0, 2, 1), api.OK) // 4
	wantDeliver(t, two, 9, "1 2/1 a")
	wantPlace(t, two, 5, slot(2, 0, 2, 2), api.ErrSender)
	wantPlace(t, two, 0, slot(3, 0, 0, 1), api.ErrGap)
	wantPlace(t, two, 0, slot(2, 0, 2, 2), api.OK)
	wantPlace(t, two, 0, slot(3, 0, 0, 1), api.OK)
	wantDeliver(t, two, 9, "2 2/2 b")
	wantPlace(t, two, 0, data(0, 1, 0, "z"), api.OK)
	wantDeliver(t, two, 9, "3 0/1 z")
	wantStand(t, two, stand{done: 3, held: 3, free: 0, sent: 2, delivered: 2})

	wantHear(t, zero, 2, stable(3, 0), api.OK) // 5
	wantStand(t, zero, stand{done: 2, held: 3, free: 1, sent: 1})
	wantHear(t, zero, 5, stable(1, 0), api.OK)
	wantStand(t, zero, stand{done: 2, prefix: 1, held: 2, free: 1, sent: 1})
	wantHear(t, zero, 5, stable(3, 3), api.ErrFar)
	wantHear(t, zero, 2, api.Stable{View: api.ViewID{Epoch: 5, Lead: 0, Inc: 1, Cid: 3}, Done: 3}, api.ErrTag)
	wantSeen(t, zero, 0, 2, 5)

	wantContent(t, zero, 1, []api.Slot{{Sender: 2, Seq: 2}, {Sender: 0, Seq: 1}}, 1, 0, 2, 0, 0, 0) // 6
	if l := zero.Content(6).Have; len(l) != 6 {
		t.Fatalf("O10: Content(6) has %v in Have", l)
	}
	wantMessages(t, zero, message(0, 1, 0, "z"), message(2, 2, 0, "b"))
	wantPlace(t, zero, 2, slot(4, 0, 5, 1), api.ErrSender)
	zero.Freeze()
	wantHear(t, zero, 2, stable(3, 1), api.ErrFrozen)
	wantDeliver(t, zero, 9, "")
}

// TestReadme: what README.md shows of this package.
func TestReadme(t *testing.T) {
	v := api.View{ID: viewID, Members: []api.Member{{Pid: 0, Inc: 1, Cid: 3}, {Pid: 2, Inc: 1, Cid: 1}}}
	a, b := made(t, v, 0, 2), made(t, v, 2, 2)
	d, _ := b.Send([]byte("x"))
	wantPlace(t, a, 2, api.Item{Kind: api.ItemData, Data: d}, api.OK)
	items := a.Assign(8)
	if len(items) != 1 || !sameItem(items[0], slot(1, 0, 2, 1)) {
		t.Fatalf("O5: Assign = %v", items)
	}
	wantPlace(t, b, 0, items[0], api.OK)
	wantDeliver(t, a, 8, "1 2/1 x")
	wantDeliver(t, b, 8, "1 2/1 x")
	wantHear(t, b, 0, a.Told(), api.OK)
	wantStand(t, b, stand{done: 1, prefix: 1, free: 2, sent: 1, delivered: 1})
	b.Freeze()
	wantContent(t, b, 1, nil, 0, 0, 1)
	wantMessages(t, b)
}

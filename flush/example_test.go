package flush_test

import (
	"testing"

	"quorate/api"
	"quorate/flush"
	"quorate/order"
)

// TestExampleCut: section 8.4, 1, 2 and 6.
func TestExampleCut(t *testing.T) {
	a, b, c := contents()
	wantCut(t, 4, api.OK, a, b, c) // 1
	wantCut(t, 4, api.OK, a, c)
	wantCut(t, 3, api.OK, c)
	wantCut(t, 4, api.OK, b)

	d := content(3, nil, 4, 2, 0, 0) // 2
	wantCut(t, 6, api.OK, four(a), four(b), d)

	wantAll(t, api.ErrFork, a, content(3, slots(0, 3), 3, 0, 0)) // 6
	other := content(2, nil, 3, 0, 0)
	other.Prev = api.ViewID{Epoch: 3, Lead: 0, Inc: 1, Cid: 3}
	wantAll(t, api.ErrPrev, a, other)
	wantAll(t, api.ErrPrev, a, content(2, nil, 3, 0))
	wantAll(t, api.ErrArg, a, content(2, slots(3, 1), 3, 0, 0))
}

// TestExampleRest: 3 to 5.
func TestExampleRest(t *testing.T) {
	a, b, c := contents()
	all := []api.Flush{a, b, c}
	wantLacks(t, 3, c, all, slots(1, 1), api.OK) // 3
	wantLacks(t, 4, c, all, nil, api.OK)
	wantLacks(t, 2, c, all, nil, api.ErrFork)
	wantLacks(t, 3, b, all, nil, api.OK)

	who := []int{0, 1, 2} // 4
	wantDuty(t, 0, 2, who, all, slots(1, 1), api.OK)
	wantDuty(t, 1, 2, who, all, nil, api.OK)
	wantDuty(t, 0, 0, who, all, nil, api.ErrArg)
	further := []api.Flush{four(a), four(b), content(3, nil, 4, 2, 0, 0)}
	who = []int{0, 1, 3}
	wantDuty(t, 3, 1, who, further, slots(0, 4, 1, 2), api.OK)
	wantDuty(t, 3, 0, who, further, slots(0, 4, 1, 2), api.OK)
	wantDuty(t, 0, 1, who, further, nil, api.OK)

	x := message(1, 1, 0, "x") // 5
	wantRest(t, 3, all, []api.Data{x}, []api.Msg{{Pos: 4, Sender: 1, Seq: 1, Body: []byte("x")}}, api.OK)
	wantRest(t, 3, all, nil, nil, api.ErrMissing)
	wantRest(t, 4, all, nil, nil, api.OK)
	wantRest(t, 9, all, nil, nil, api.OK)
	wantRest(t, 2, all, []api.Data{x}, nil, api.ErrFork)
}

// TestExampleStore: 7.
func TestExampleStore(t *testing.T) {
	a, b, _ := contents()
	older, newer := a, a
	older.Prev = api.ViewID{Epoch: 2, Lead: 1, Inc: 1, Cid: 1}
	newer.Prev = api.ViewID{Epoch: 4, Lead: 1, Inc: 1, Cid: 1}
	s := made(t, 3)
	wantMissing(t, s, viewID, []api.Member{member(0, 1), member(2, 4)}, 0, 2)
	wantTake(t, s, 0, 1, a, api.OK)
	wantTake(t, s, 0, 1, a, api.OK)
	wantTake(t, s, 0, 1, b, api.ErrFork)
	wantTake(t, s, 0, 1, older, api.ErrStale)
	wantContents(t, s, viewID, []api.Member{member(0, 1)}, a)
	wantTake(t, s, 0, 1, newer, api.OK)
	wantMissing(t, s, viewID, []api.Member{member(0, 1)}, 0)
	wantTake(t, s, 0, 2, a, api.OK)
	wantTake(t, s, 0, 1, newer, api.ErrOld)
	wantMissing(t, s, viewID, []api.Member{member(0, 1)}, 0)
	wantMissing(t, s, viewID, []api.Member{member(0, 2)})
}

// TestExampleForwards: 8.
func TestExampleForwards(t *testing.T) {
	x, y := message(1, 1, 0, "x"), message(0, 4, 0, "y")
	s := made(t, 3)
	wantAdd(t, s, forward(x), api.ErrPrev)
	wantAdd(t, s, forward(x, y), api.ErrArg)
	s.Begin(viewID)
	wantAdd(t, s, forward(x), api.OK)
	wantAdd(t, s, forward(y, message(1, 1, 0, "z")), api.ErrFork)
	wantMessages(t, s, x)
	wantAdd(t, s, forward(y, x), api.OK)
	wantMessages(t, s, y, x)
	wantAdd(t, s, forward(x, y), api.ErrArg)
	wantMessages(t, s, y, x)
	s.Begin(viewID)
	wantMessages(t, s)
}

// TestReadme: what README.md shows.
func TestReadme(t *testing.T) {
	id := api.ViewID{Epoch: 3, Lead: 0, Inc: 1, Cid: 2}
	v := api.View{ID: id, Members: []api.Member{{Pid: 0, Inc: 1, Cid: 2}, {Pid: 1, Inc: 1, Cid: 5}}}
	a, e := order.New(v, 0, 2)
	if e != api.OK {
		t.Fatalf("README: error %d", e)
	}
	if _, e := a.Send([]byte("x")); e != api.OK {
		t.Fatalf("README: error %d", e)
	}
	a.Assign(8)
	mine, its := a.Content(2), api.Flush{Prev: id, Have: []int{0, 0}}

	s, e := flush.New(2)
	if e != api.OK {
		t.Fatalf("README: error %d", e)
	}
	wantTake(t, s, 0, 1, mine, api.OK)
	wantTake(t, s, 1, 1, its, api.OK)
	all, e := s.Contents(id, v.Members)
	if e != api.OK {
		t.Fatalf("README: error %d", e)
	}
	wantCut(t, 1, api.OK, all...)
	wantLacks(t, 0, its, all, slots(0, 1), api.OK)
	wantDuty(t, 0, 1, []int{0, 1}, all, slots(0, 1), api.OK)

	s.Begin(id)
	wantAdd(t, s, api.Forward{Prev: id, Msgs: a.Messages()}, api.OK)
	wantRest(t, 0, all, s.Messages(), []api.Msg{{Pos: 1, Sender: 0, Seq: 1, Body: []byte("x")}}, api.OK)
}

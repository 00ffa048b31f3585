package flush_test

import (
	"slices"
	"testing"

	"quorate/api"
	"quorate/flush"
)

func TestNew(t *testing.T) {
	for _, n := range append(far(), 0, api.MaxNodes+1) {
		if s, e := flush.New(n); s != nil || e != api.ErrArg {
			t.Errorf("F8: New(%d) = %v, error %d, want nil, error %d", n, s, e, api.ErrArg)
		}
	}
	for n := 1; n <= api.MaxNodes; n++ {
		s := made(t, n)
		wantMessages(t, s)
		wantAdd(t, s, forward(), api.ErrPrev)
		f := content(0, nil, make([]int, n)...)
		wantTake(t, s, n, 1, f, api.ErrArg)
		for q := range n {
			wantMissing(t, s, viewID, []api.Member{member(q, 1)}, q)
			wantTake(t, s, q, 1, f, api.OK)
			wantContents(t, s, viewID, []api.Member{member(q, 1)}, f)
		}
	}
}

// wantUnchangedTake: what is not sound is refused, whoever it is of, and nothing changes.
func wantUnchangedTake(t *testing.T, f api.Flush) {
	t.Helper()
	s := atWork(t)
	a, b, _ := contents()
	for q := range 3 {
		wantTake(t, s, q, 9, f, api.ErrArg)
		wantTake(t, s, q, 1, f, api.ErrArg)
	}
	wantContents(t, s, viewID, []api.Member{member(0, 1), member(2, 4)}, a, b)
	wantMissing(t, s, viewID, []api.Member{member(1, 9)}, 1)
}

func TestTakeRefuses(t *testing.T) {
	a, _, _ := contents()
	two := content(0, nil, 1, 1)
	wantUnchanged(t, "F9: a refused content", func(s *flush.Store) {
		for _, n := range append(far(), 3, api.MaxNodes) {
			wantTake(t, s, n, 9, a, api.ErrArg)
		}
		for _, n := range append(far(), 0) {
			wantTake(t, s, 0, n, a, api.ErrArg)
			wantTake(t, s, 1, n, a, api.ErrArg)
		}
		for _, q := range []int{0, 1, 2} {
			wantTake(t, s, q, 9, two, api.ErrArg)
			wantTake(t, s, q, 9, four(a), api.ErrArg)
		}
	})
	wantTake(t, made(t, 3), 2, api.MaxCount, a, api.OK)
}

// TestTake: the incarnation first, then the epoch, then all of it.
func TestTake(t *testing.T) {
	a, b, c := contents()
	of := func(f api.Flush, epoch int) api.Flush {
		f.Prev.Epoch = epoch
		return f
	}
	s := made(t, 3)
	kept := func(inc int, f api.Flush) {
		t.Helper()
		wantContents(t, s, f.Prev, []api.Member{member(1, inc)}, f)
		for _, other := range []int{inc - 1, inc + 1} {
			wantMissing(t, s, f.Prev, []api.Member{member(1, other)}, 1)
		}
		wantMissing(t, s, f.Prev, []api.Member{member(0, inc), member(2, inc)}, 0, 2)
	}
	wantTake(t, s, 1, 5, a, api.OK)
	kept(5, a)
	wantTake(t, s, 1, 5, a, api.OK)
	kept(5, a)
	for _, f := range []api.Flush{a, b, of(a, 2), of(a, 4), of(a, api.MaxCount)} {
		wantTake(t, s, 1, 4, f, api.ErrOld)
		wantTake(t, s, 1, 1, f, api.ErrOld)
	}
	wantTake(t, s, 1, 5, of(a, 2), api.ErrStale)
	wantTake(t, s, 1, 5, of(b, 1), api.ErrStale)
	kept(5, a)
	for _, change := range []func(f *api.Flush){
		func(f *api.Flush) { f.Prev.Lead++ },
		func(f *api.Flush) { f.Prev.Inc++ },
		func(f *api.Flush) { f.Prev.Cid++ },
		func(f *api.Flush) { f.Base++ },
		func(f *api.Flush) { f.Base-- },
		func(f *api.Flush) { f.Slots = f.Slots[:1] },
		func(f *api.Flush) { f.Slots = nil },
		func(f *api.Flush) { f.Slots = slots(0, 3, 1, 2) },
		func(f *api.Flush) { f.Slots = slots(0, 3, 1, 1, 2, 2) },
		func(f *api.Flush) { f.Have = []int{3, 1, 1} },
		func(f *api.Flush) { f.Have = []int{4, 1, 0} },
	} {
		f := a
		change(&f)
		wantTake(t, s, 1, 5, f, api.ErrFork)
		kept(5, a)
	}
	wantTake(t, s, 1, 5, of(b, 4), api.OK)
	kept(5, of(b, 4))
	wantMissing(t, s, viewID, []api.Member{member(1, 5)}, 1)
	wantTake(t, s, 1, 5, a, api.ErrStale)
	wantTake(t, s, 1, 5, of(c, api.MaxCount), api.OK)
	kept(5, of(c, api.MaxCount))
	wantTake(t, s, 1, 6, of(c, 1), api.OK)
	kept(6, of(c, 1))
	wantTake(t, s, 1, 5, of(c, api.MaxCount), api.ErrOld)
	kept(6, of(c, 1))
}

// TestNoSlots: nil and an empty list are the same.
func TestNoSlots(t *testing.T) {
	none, empty := content(2, nil, 3, 1, 0), content(2, []api.Slot{}, 3, 1, 0)
	s := made(t, 3)
	wantTake(t, s, 0, 1, none, api.OK)
	wantTake(t, s, 0, 1, empty, api.OK)
	wantTake(t, s, 1, 1, empty, api.OK)
	wantTake(t, s, 1, 1, none, api.OK)
	s.Begin(viewID)
	wantAdd(t, s, forward(api.Data{Sender: 1, Seq: 1}), api.OK)
	wantAdd(t, s, forward(message(1, 1, 0, "")), api.OK)
	wantAdd(t, s, forward(), api.OK)
	wantAdd(t, s, forward([]api.Data{}...), api.OK)
}

// TestMissing: in the order of who, each as often as it is named; Cid does not count.
func TestMissing(t *testing.T) {
	s := atWork(t)
	a, b, _ := contents()
	wantMissing(t, s, viewID, nil)
	wantContents(t, s, viewID, nil)
	wantContents(t, s, api.ViewID{}, []api.Member{})
	wantContents(t, s, viewID, []api.Member{member(2, 4), member(0, 1), member(2, 4)}, b, a, b)
	wantContents(t, s, viewID, []api.Member{{Pid: 0, Inc: 1}, {Pid: 2, Inc: 4, Cid: -5}}, a, b)
	wantMissing(t, s, viewID, []api.Member{member(2, 5), member(1, 1), member(0, 1), member(0, 4), member(2, 4), member(1, 4), member(2, 3)}, 2, 1, 0, 1, 2)
	for _, n := range append(far(), 3, api.MaxNodes) {
		wantMissing(t, s, viewID, []api.Member{member(0, 1), member(n, 1), member(2, 4), member(n, 4), member(n, 0)}, n, n, n)
		wantMissing(t, s, api.ViewID{}, []api.Member{{Pid: n}}, n)
	}
	for _, n := range append(far(), 0, 2) {
		wantMissing(t, s, viewID, []api.Member{member(0, n), member(1, n), member(2, n)}, 0, 1, 2)
	}
	for _, change := range []func(id *api.ViewID){
		func(id *api.ViewID) { id.Epoch++ }, func(id *api.ViewID) { id.Epoch = 0 }, func(id *api.ViewID) { id.Lead++ },
		func(id *api.ViewID) { id.Inc++ }, func(id *api.ViewID) { id.Cid-- },
	} {
		id := viewID
		change(&id)
		wantMissing(t, s, id, []api.Member{member(0, 1), member(2, 4)}, 0, 2)
	}
	// of nothing that is kept there is no content of no incarnation, not even of no view
	wantMissing(t, s, api.ViewID{}, []api.Member{{Pid: 1}, {Pid: 0}}, 1, 0)
	wantMissing(t, made(t, 3), api.ViewID{}, []api.Member{{Pid: 2}}, 2)
}

// TestLongLists: who may be of any length.
func TestLongLists(t *testing.T) {
	s := atWork(t)
	a, _, _ := contents()
	who := slices.Repeat([]api.Member{member(0, 1)}, 1000)
	wantContents(t, s, viewID, who, slices.Repeat([]api.Flush{a}, 1000)...)
	wantMissing(t, s, viewID, append(who, member(1, 1)), 1)
}

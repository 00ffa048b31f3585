package quorum_test

import (
	"math"
	"slices"
	"testing"

	"quorate/api"
)

// noCounts are numbers that cannot be an epoch, an incarnation or a change id.
func noCounts() []int {
	return []int{math.MinInt, -api.MaxCount, -1, 0, api.MaxCount + 1, math.MaxInt}
}

// TestNew: Q8 and Q10, a watch that has seen no view.
func TestNew(t *testing.T) {
	for _, votes := range smallVotes() {
		wantTold(t, made(t, votes...), told{})
	}
}

// TestNoView: Q9, 1, each thing that a view must be, broken at every place.
func TestNoView(t *testing.T) {
	for nodes := 1; nodes <= api.MaxNodes; nodes++ {
		w := made(t, same(nodes, 1)...)
		all := othersOf(nodes, nil)
		wantNoView := func(change func(v *api.View)) {
			t.Helper()
			v := viewOf(7, all...)
			change(&v)
			wantRefused(t, w, v, api.ErrView)
		}
		for at := range nodes {
			for _, p := range append(far(), nodes, nodes+1) {
				wantNoView(func(v *api.View) { v.Members[at].Pid = p })
				wantNoView(func(v *api.View) { v.Members[at].Pid = p; v.ID.Lead = v.Members[0].Pid })
			}
			for _, n := range noCounts() {
				wantNoView(func(v *api.View) { v.Members[at].Inc = n })
				wantNoView(func(v *api.View) { v.Members[at].Inc = n; v.ID.Inc = v.Members[0].Inc })
				wantNoView(func(v *api.View) { v.Members[at].Cid = n })
				wantNoView(func(v *api.View) { v.Members[at].Cid = n; v.ID.Cid = v.Members[0].Cid })
			}
			for other := range at {
				wantNoView(func(v *api.View) { v.Members[at] = v.Members[other] })
				wantNoView(func(v *api.View) { v.Members[at].Pid = other })
				wantNoView(func(v *api.View) {
					v.Members[at], v.Members[other] = v.Members[other], v.Members[at]
					*v = view(7, v.Members...)
				})
			}
			wantNoView(func(v *api.View) { v.Members = slices.Insert(v.Members, at, v.Members[at]) })
		}
		wantNoView(func(v *api.View) { v.Members = append(v.Members, api.Member{Pid: nodes, Inc: 1, Cid: 1}) })
		wantNoView(func(v *api.View) { v.Members = append(v.Members, api.Member{Pid: 0, Inc: 1, Cid: 1}) })
		wantNoView(func(v *api.View) { v.Members = slices.Repeat(v.Members, 100000/nodes) })
		wantTold(t, w, told{})
		wantEntered(t, w, viewOf(7, all...), true)
	}
}

// TestNoID: Q9, 1: an epoch that is none, and an ID of other numbers than the first member's.
func TestNoID(t *testing.T) {
	good := api.ViewID{Epoch: 7, Lead: 1, Inc: 2, Cid: 11}
	w := made(t, 1, 1, 1, 1)
	wantNoID := func(id api.ViewID) {
		t.Helper()
		v := viewOf(7, 1, 2)
		v.ID = id
		wantRefused(t, w, v, api.ErrView)
	}
	for _, n := range noCounts() {
		wantNoID(api.ViewID{Epoch: n, Lead: 1, Inc: 2, Cid: 11})
	}
	for _, n := range append(far(), 0, 2, 3, 4) {
		wantNoID(api.ViewID{Epoch: 7, Lead: n, Inc: 2, Cid: 11})
	}
	for _, n := range append(noCounts(), 1, 3, 11) {
		wantNoID(api.ViewID{Epoch: 7, Lead: 1, Inc: n, Cid: 11})
	}
	for _, n := range append(noCounts(), 10, 12, 2) {
		wantNoID(api.ViewID{Epoch: 7, Lead: 1, Inc: 2, Cid: n})
	}
	wantNoID(api.ViewID{})
	wantNoID(viewOf(7, 2).ID)                   // of a member, but not of the first one
	for _, id := range []api.ViewID{{}, good} { // nobody is in it
		wantRefused(t, w, api.View{ID: id}, api.ErrView)
		wantRefused(t, w, api.View{ID: id, Members: []api.Member{}}, api.ErrView)
	}
	v := viewOf(7, 1, 2)
	if v.ID != good {
		t.Fatalf("the test's own ID is %v", v.ID)
	}
	wantEntered(t, w, v, false)
}

// TestEdgesOfViews: Q9: the least and the greatest that may be.
func TestEdgesOfViews(t *testing.T) {
	top := api.MaxCount
	w := made(t, 1)
	wantEntered(t, w, view(1, api.Member{Pid: 0, Inc: 1, Cid: 1}), true)
	wantEntered(t, w, view(top, api.Member{Pid: 0, Inc: top, Cid: top}), true)
	wantRefused(t, w, view(top, api.Member{Pid: 0, Inc: top, Cid: top}), api.ErrOrder)
	wantRefused(t, w, view(top+1, api.Member{Pid: 0, Inc: top, Cid: top}), api.ErrView)

	w = made(t, same(api.MaxNodes, 9)...)
	all := othersOf(api.MaxNodes, nil)
	wantEntered(t, w, viewOf(top-1, all...), true)
	v := viewOf(top, all[8:]...)
	for k := range v.Members {
		v.Members[k].Inc, v.Members[k].Cid = top, 1
	}
	wantEntered(t, w, view(top, v.Members...), false)
	wantTold(t, w, told{last: viewOf(top-1, all...).ID, entered: 2, quorates: 1})
}

// TestRisingEpochs: Q9, 2: behind a view that was entered only those of greater epochs, quorate or not.
func TestRisingEpochs(t *testing.T) {
	w := made(t, 1, 1, 1)
	wantEntered(t, w, viewOf(5, 2), false)
	for _, epoch := range []int{1, 4, 5} {
		wantRefused(t, w, viewOf(epoch, 2), api.ErrOrder)
		wantRefused(t, w, viewOf(epoch, 0, 1, 2), api.ErrOrder)
	}
	wantEntered(t, w, viewOf(6, 0, 1), true)
	wantRefused(t, w, viewOf(6, 2), api.ErrOrder)
	wantRefused(t, w, viewOf(5, 0, 1, 2), api.ErrOrder)
	wantEntered(t, w, viewOf(100, 1), false)
	wantRefused(t, w, viewOf(99, 0, 1, 2), api.ErrOrder)
	wantRefused(t, w, viewOf(100, 0, 1, 2), api.ErrOrder)
	wantEntered(t, w, viewOf(101, 0), false)
	wantTold(t, w, told{last: viewOf(6, 0, 1).ID, entered: 4, quorates: 1})
}

// TestViewAheadOfOrder: rule 3: what is no view is told ahead of an epoch that comes too late.
func TestViewAheadOfOrder(t *testing.T) {
	w := made(t, 1, 1, 1)
	wantEntered(t, w, viewOf(5, 0, 1), true)
	for epoch := 1; epoch <= 6; epoch++ {
		wrong := viewOf(epoch, 0, 1)
		wrong.ID.Cid++
		wantRefused(t, w, wrong, api.ErrView)
		wantRefused(t, w, viewOf(epoch, 1, 0), api.ErrView)
		wantRefused(t, w, viewOf(epoch, 0, 3), api.ErrView)
	}
	wantRefused(t, w, viewOf(0, 0, 1), api.ErrView)
}

// TestRefusedFirst: Q9: a view that was refused does not count as entered.
func TestRefusedFirst(t *testing.T) {
	w := made(t, 1, 1, 1)
	wrong := viewOf(50, 0, 1)
	wrong.ID.Inc++
	wantRefused(t, w, wrong, api.ErrView)
	wantEntered(t, w, viewOf(3, 0, 1), true)
	wrong.ID.Epoch = 60
	wantRefused(t, w, wrong, api.ErrView)
	wantRefused(t, w, viewOf(2, 0, 1), api.ErrOrder)
	wantEntered(t, w, viewOf(4, 1), false)
}

// TestEveryView: Q9, 3: every view of votes of all kinds, of which the sets are quorate.
func TestEveryView(t *testing.T) {
	for _, votes := range smallVotes() {
		w := made(t, votes...)
		epoch := 0
		for _, set := range setsOf(len(votes)) {
			epoch += 1 + len(set)
			if len(set) > 0 {
				wantEntered(t, w, viewOf(epoch, set...), isQuorate(votes, set))
			}
		}
	}
}

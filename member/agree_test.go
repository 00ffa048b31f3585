package member_test

import (
	"testing"

	"quorate/api"
)

// TestAgreement: what is missing for it, one thing at a time.
func TestAgreement(t *testing.T) {
	s := set(0, 2, 3, 4)
	a := made(t, 4, 2, 3, 0)
	wantEstimate(t, a, s, true, api.OK)
	wantApart(t, a)
	wantTake(t, a, 1, 2, prop(s, 5, 1, 0, none, 0, 5, 2, 6), false, api.OK)
	wantApart(t, a) // nothing of node 3
	wantTake(t, a, 3, 4, prop(s, 6, 1, 0, none, 0, 0, 2, 6), false, api.OK)
	wantApart(t, a) // node 3 has not heard node 1
	wantTake(t, a, 3, 4, prop(s, 6, 2, 0, none, 0, 5, 1, 6), false, api.OK)
	wantApart(t, a) // node 3 has heard an older one of this node
	wantTake(t, a, 3, 4, prop(set(1, 2, 3, 4), 6, 3, 0, none, 0, 5, 2, 6), false, api.OK)
	wantApart(t, a) // node 3 wants another set
	wantTake(t, a, 3, 4, prop(set(0, 2, 3, 4), 7, 4, 0, none, 0, 5, 2, 7), false, api.OK)
	wantApart(t, a) // node 1 has heard an older one of node 3
	wantTake(t, a, 3, 4, prop(s, 6, 5, 0, none, 0, 5, 2, 6), false, api.OK)
	wantAgreed(t, a, view(id(1, 1, 2, 5), 1, 2, 5, 2, 3, 2, 3, 4, 6), 2)
	wantTake(t, a, 0, 1, prop(set(1, 2, 3, 4), 6, 5, 9, none, 6, 0, 0, 0), false, api.OK)
	wantAgreed(t, a, view(id(1, 1, 2, 5), 1, 2, 5, 2, 3, 2, 3, 4, 6), 2) // node 0 is not asked
	wantTake(t, a, 3, 5, prop(set(0, 2, 3, 5), 6, 1, 0, none, 0, 0, 0, 6), false, api.OK)
	wantApart(t, a) // node 3 has begun anew
	wantEstimate(t, a, set(0, 0, 3, 0), true, api.OK)
	wantAgreed(t, a, view(id(1, 2, 3, 3), 2, 3, 3), 2)
}

// TestGivenUp: a change that begins gives up the view that was agreed on.
func TestGivenUp(t *testing.T) {
	a := atOne(t)
	wantEstimate(t, a, set(4, 1, 7, 5, 0), true, api.OK)
	wantApart(t, a)
	wantEstimate(t, a, busySet, true, api.OK)
	wantApart(t, a) // the others have heard the Cid of the change that was given up
	wantStand(t, a, busyView, true)
}

// TestEpoch: one more than the greatest Top of all members, wherever it stands; others do not count.
func TestEpoch(t *testing.T) {
	for _, tops := range [][3]int{{0, 0, 0}, {7, 3, 5}, {3, 7, 5}, {3, 5, 7}, {7, 7, 7}, {0, 0, api.MaxCount - 1}, {api.MaxCount - 1, 0, 0}} {
		a := made(t, 4, 1, 1, tops[1])
		cid := tops[1] + 1
		wantTake(t, a, 3, 1, prop(set(0, 0, 0, 1), 9, 1, 100, none, 0, 0, 0, 9), false, api.OK)
		if cid < api.MaxCount {
			wantEstimate(t, a, set(1, 1, 1, 0), true, api.OK)
			cid++
		}
		wantTake(t, a, 0, 1, prop(set(1, 1, 1, 0), 4, 1, tops[0], none, 4, cid, 6, 0), false, api.OK)
		wantTake(t, a, 2, 1, prop(set(1, 1, 1, 0), 6, 1, tops[2], none, 4, cid, 6, 0), false, api.OK)
		epoch := max(tops[0], tops[1], tops[2]) + 1
		wantAgreed(t, a, view(id(epoch, 0, 1, 4), 0, 1, 4, 1, 1, cid, 2, 1, 6), 1)
	}
}

// TestTransitional: those who come from the very same view; the four numbers of its ID all count.
func TestTransitional(t *testing.T) {
	own := busyView.ID
	s := set(4, 1, 7, 5, 2)
	for _, c := range []struct {
		prev  api.ViewID
		trans []int
	}{
		{own, []int{0, 1, 2}}, {none, []int{1, 2}}, {id(8, 0, 4, 2), []int{1, 2}}, {id(9, 1, 4, 2), []int{1, 2}},
		{id(9, 0, 5, 2), []int{1, 2}}, {id(9, 0, 4, 3), []int{1, 2}},
	} {
		a := inView(t)
		wantEstimate(t, a, s, true, api.OK)
		vec := []int{11, 12, 4, 13, 14}
		wantTake(t, a, 0, 4, prop(s, 11, 20, 9, c.prev, vec...), false, api.OK)
		wantTake(t, a, 1, 1, prop(s, 12, 20, 9, own, vec...), false, api.OK)
		wantTake(t, a, 3, 5, prop(s, 13, 20, 9, none, vec...), false, api.OK)
		wantTake(t, a, 4, 2, prop(s, 14, 20, 9, id(9, 4, 2, 1), vec...), false, api.OK)
		v := view(id(10, 0, 4, 11), 0, 4, 11, 1, 1, 12, 2, 7, 4, 3, 5, 13, 4, 2, 14)
		wantAgreed(t, a, v, c.trans...)
		wantInstall(t, a, v, c.trans...)
	}
}

// TestFromNoView: who comes from none is with no other who comes from none.
func TestFromNoView(t *testing.T) {
	a := made(t, 2, 1, 1, 0)
	wantEstimate(t, a, set(1, 1), true, api.OK)
	wantTake(t, a, 0, 1, prop(set(1, 1), 2, 1, 0, none, 2, 2), false, api.OK)
	wantAgreed(t, a, view(id(1, 0, 1, 2), 0, 1, 2, 1, 1, 2), 1)
}

// TestInstallKeeps: the own proposal and the latest ones stay as they were.
func TestInstallKeeps(t *testing.T) {
	a := atOne(t)
	p := a.Proposal()
	next := view(id(10, 0, 4, 3), 0, 4, 3, 2, 7, 4, 3, 5, 7)
	wantInstall(t, a, next, 0, 2, 3)
	wantProposal(t, a, p)
	wantApart(t, a)
	wantTake(t, a, 0, 4, prop(busySet, 3, 12, 9, busyView.ID, 3, 0, 4, 7, 0), false, api.ErrStale)
	wantEstimate(t, a, set(4, 0, 7, 0, 0), true, api.OK)
	wantProposal(t, a, prop(set(4, 0, 7, 0, 0), 5, p.Rev+1, 10, next.ID, 0, 0, 5, 0, 0))
	wantEstimate(t, a, busySet, true, api.OK)
	wantProposal(t, a, prop(busySet, 6, p.Rev+2, 10, next.ID, 3, 0, 6, 7, 0))
	wantStand(t, a, next, true)
}

// TestAllNodes: sixteen of them in one view.
func TestAllNodes(t *testing.T) {
	for self := range api.MaxNodes {
		a := made(t, api.MaxNodes, self, self+1, 0)
		s, vec := make([]int, api.MaxNodes), make([]int, api.MaxNodes)
		var members []int
		for q := range s {
			s[q], vec[q] = q+1, q+3
		}
		vec[self] = 2
		wantEstimate(t, a, s, true, api.OK)
		for q := range s {
			members = append(members, q, s[q], vec[q])
			if q != self {
				wantApart(t, a)
				wantTake(t, a, q, s[q], prop(s, vec[q], 1, 0, none, vec...), false, api.OK)
			}
		}
		wantAgreed(t, a, view(id(1, 0, 1, vec[0]), members...), self)
		if self < api.MaxNodes-1 { // the last entry counts as every other
			other := append([]int{}, s...)
			other[api.MaxNodes-1]++
			wantEstimate(t, a, other, true, api.OK)
		}
	}
}

package member_test

import (
	"slices"
	"testing"

	"quorate/api"
	"quorate/member"
)

// TestEstimateRefuses: what is no set of five nodes with the incarnation 7 at node 2.
func TestEstimateRefuses(t *testing.T) {
	wantUnchanged(t, "P6.2: ErrSet", func(a *member.Agent) {
		for n := range 12 {
			l := append([]int{1, 0, 7, 2, 3}, make([]int, 7)...)[:n]
			if n != 5 {
				wantEstimate(t, a, l, false, api.ErrSet)
			}
		}
		wantEstimate(t, a, nil, false, api.ErrSet)
		for _, inc := range append(far(), 0, 1, 6, 8, api.MaxCount) {
			wantEstimate(t, a, set(4, 0, inc, 5, 0), false, api.ErrSet)
		}
		for _, v := range far() {
			for q := range 5 {
				l := set(4, 0, 7, 5, 0)
				l[q] = v
				wantEstimate(t, a, l, false, api.ErrSet)
			}
		}
	})
}

// TestEstimateOfTheSame: it begins nothing, whether the agent is changing or not.
func TestEstimateOfTheSame(t *testing.T) {
	wantUnchanged(t, "P6.2: the own Set", func(a *member.Agent) {
		for range 3 {
			wantEstimate(t, a, busySet, false, api.OK)
			wantEstimate(t, a, slices.Clone(busySet), false, api.OK)
		}
	})
}

// TestEstimateBegins: each single entry makes another set, and every other set a change.
func TestEstimateBegins(t *testing.T) {
	for _, make := range []func(*testing.T) *member.Agent{inView, atOdds, atOne} {
		for q := range 5 {
			for _, inc := range []int{0, 1, 3, 6, api.MaxCount} {
				l := slices.Clone(busySet)
				l[q] = inc
				if q == 2 || inc == busySet[q] {
					continue
				}
				a := make(t)
				p := a.Proposal()
				wantEstimate(t, a, l, true, api.OK)
				wantProposal(t, a, prop(l, p.Cid+1, p.Rev+1, 9, busyView.ID, 0, 0, p.Cid+1, 0, 0))
				wantStand(t, a, busyView, true)
				wantEstimate(t, a, l, false, api.OK)
				wantEstimate(t, a, busySet, true, api.OK)
				if back := a.Proposal(); back.Cid != p.Cid+2 || back.Rev != p.Rev+2 || back.Vec[0] == 0 || back.Vec[3] == 0 {
					t.Errorf("P6.2: back at the old set: %v", back)
				}
			}
		}
	}
}

// TestEstimateOfNoView: without a view Top stays the floor, and Prev none.
func TestEstimateOfNoView(t *testing.T) {
	a := made(t, 2, 1, 3, 8)
	wantEstimate(t, a, set(5, 3), true, api.OK)
	wantProposal(t, a, prop(set(5, 3), 10, 2, 8, none, 0, 10))
	wantEstimate(t, a, set(6, 3), true, api.OK)
	wantProposal(t, a, prop(set(6, 3), 11, 3, 8, none, 0, 11))
	wantStand(t, a, api.View{}, true)
}

// TestVecKnowsWhatCameBefore: a proposal that was taken ahead of the change counts in it.
func TestVecKnowsWhatCameBefore(t *testing.T) {
	a := made(t, 4, 0, 1, 0)
	wantTake(t, a, 1, 2, prop(set(1, 2, 5, 0), 7, 1, 0, none, 0, 7, 0, 0), false, api.OK)
	wantTake(t, a, 2, 4, prop(set(1, 2, 4, 0), 8, 1, 0, none, 0, 0, 8, 0), false, api.OK)
	wantTake(t, a, 3, 9, prop(set(1, 2, 5, 9), 3, 1, 0, none, 0, 0, 0, 3), false, api.OK)
	wantProposal(t, a, prop(set(1, 0, 0, 0), 1, 1, 0, none, 1, 0, 0, 0))
	wantEstimate(t, a, set(1, 2, 5, 0), true, api.OK)
	wantProposal(t, a, prop(set(1, 2, 5, 0), 2, 2, 0, none, 2, 7, 0, 0))
	wantEstimate(t, a, set(1, 2, 4, 0), true, api.OK)
	wantProposal(t, a, prop(set(1, 2, 4, 0), 3, 3, 0, none, 3, 0, 8, 0))
	wantEstimate(t, a, set(1, 2, 5, 9), true, api.OK)
	wantProposal(t, a, prop(set(1, 2, 5, 9), 4, 4, 0, none, 4, 0, 0, 3))
	wantEstimate(t, a, set(1, 3, 5, 0), true, api.OK)
	wantProposal(t, a, prop(set(1, 3, 5, 0), 5, 5, 0, none, 5, 0, 0, 0))
}

// TestEstimateSpent: by the Cid, and by the present view's Epoch.
func TestEstimateSpent(t *testing.T) {
	a := made(t, 2, 0, 1, api.MaxCount-2)
	wantEstimate(t, a, set(1, 4), true, api.OK)
	wantEstimate(t, a, set(1, 5), false, api.ErrSpent)
	wantProposal(t, a, prop(set(1, 4), api.MaxCount, 2, api.MaxCount-2, none, api.MaxCount, 0))
	wantStand(t, a, api.View{}, true)
	wantEstimate(t, a, set(1, 4), false, api.OK)
	wantEstimate(t, a, set(2, 5), false, api.ErrSet)

	a = lastEpoch(t)
	wantEstimate(t, a, set(1, 5, 0), false, api.OK)
	wantEstimate(t, a, set(1, 0, 0), false, api.ErrSpent)
	wantEstimate(t, a, set(1, 5, 3), false, api.ErrSpent)
	wantEstimate(t, a, set(0, 5, 3), false, api.ErrSet)
	wantSame(t, "P6.2: ErrSpent", a, lastEpoch(t))
}

// lastEpoch is an agent in a view whose Epoch is MaxCount, with a Cid far from it.
func lastEpoch(t *testing.T) *member.Agent {
	t.Helper()
	a := made(t, 3, 0, 1, 0)
	wantEstimate(t, a, set(1, 5, 0), true, api.OK)
	wantTake(t, a, 1, 5, prop(set(1, 5, 0), 1, 1, api.MaxCount-1, none, 2, 1, 0), false, api.OK)
	wantInstall(t, a, view(id(api.MaxCount, 0, 1, 2), 0, 1, 2, 1, 5, 1), 0)
	return a
}

// lastCid is an agent whose Cid is MaxCount, in a view of the Epoch below that.
func lastCid(t *testing.T) *member.Agent {
	t.Helper()
	a := made(t, 3, 0, 1, api.MaxCount-2)
	wantEstimate(t, a, set(1, 5, 0), true, api.OK)
	wantTake(t, a, 1, 5, prop(set(1, 5, 0), 1, 1, 0, none, api.MaxCount, 1, 0), false, api.OK)
	wantInstall(t, a, view(id(api.MaxCount-1, 0, 1, api.MaxCount), 0, 1, api.MaxCount, 1, 5, 1), 0)
	return a
}

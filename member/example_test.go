package member_test

import (
	"testing"

	"quorate/api"
)

// TestExamples: section 6.5, 1 to 6, line by line.
func TestExamples(t *testing.T) {
	a := made(t, 3, 1, 4, 0) // 1
	first := view(id(1, 1, 4, 1), 1, 4, 1)
	wantProposal(t, a, prop(set(0, 4, 0), 1, 1, 0, none, 0, 1, 0))
	wantStand(t, a, api.View{}, true)
	wantAgreed(t, a, first, 1)
	wantInstall(t, a, first, 1)
	wantApart(t, a)
	wantStand(t, a, first, false)

	wantEstimate(t, a, set(0, 4, 0), false, api.OK) // 2
	wantEstimate(t, a, set(0, 4, 9), true, api.OK)
	changed := prop(set(0, 4, 9), 2, 2, 1, first.ID, 0, 2, 0)
	wantProposal(t, a, changed)
	wantEstimate(t, a, set(0, 3, 9), false, api.ErrSet)
	wantEstimate(t, a, set(0, 4), false, api.ErrSet)
	wantProposal(t, a, changed)

	two := prop(set(0, 4, 9), 1, 5, 0, none, 0, 2, 1) // 3
	second := view(id(2, 1, 4, 2), 1, 4, 2, 2, 9, 1)
	wantTake(t, a, 2, 9, two, false, api.OK)
	wantProposal(t, a, prop(set(0, 4, 9), 2, 3, 1, first.ID, 0, 2, 1))
	wantAgreed(t, a, second, 1)

	wantTake(t, a, 2, 9, two, false, api.ErrStale) // 4
	wantTake(t, a, 2, 8, prop(set(0, 4, 8), 1, 9, 0, none, 0, 0, 1), false, api.ErrOld)
	wantTake(t, a, 2, 9, prop(set(0, 4, 8), 1, 9, 0, none, 0, 0, 1), false, api.ErrSet)
	wantTake(t, a, 1, 4, two, false, api.ErrArg)
	wantAgreed(t, a, second, 1)

	wantInstall(t, a, second, 1) // 5
	wantProposal(t, a, prop(set(0, 4, 9), 2, 3, 1, first.ID, 0, 2, 1))
	wantTake(t, a, 2, 9, prop(set(0, 4, 9), 2, 6, 2, second.ID, 0, 0, 2), true, api.OK)
	wantProposal(t, a, prop(set(0, 4, 9), 3, 4, 2, second.ID, 0, 3, 2))
	wantApart(t, a)
	wantStand(t, a, second, true)

	wantTake(t, a, 2, 9, prop(set(0, 4, 9), 2, 7, 2, second.ID, 0, 3, 2), false, api.OK) // 6
	wantAgreed(t, a, view(id(3, 1, 4, 3), 1, 4, 3, 2, 9, 2), 1, 2)
}

// TestSpentExamples: section 6.5, 7 and 8.
func TestSpentExamples(t *testing.T) {
	a := made(t, 1, 0, 1, api.MaxCount-1)
	wantProposal(t, a, prop(set(1), api.MaxCount, 1, api.MaxCount-1, none, api.MaxCount))
	last := view(id(api.MaxCount, 0, 1, api.MaxCount), 0, 1, api.MaxCount)
	wantAgreed(t, a, last, 0)
	wantInstall(t, a, last, 0)
	wantEstimate(t, a, set(1), false, api.OK)
	wantNoAgent(t, api.ErrSpent, 1, 0, 1, api.MaxCount)

	a = made(t, 2, 0, 1, api.MaxCount-1)
	wantEstimate(t, a, set(1, 1), false, api.ErrSpent)
	wantProposal(t, a, prop(set(1, 0), api.MaxCount, 1, api.MaxCount-1, none, api.MaxCount, 0))
}

// TestReadme: what README.md shows of this package.
func TestReadme(t *testing.T) {
	a, b := made(t, 2, 0, 1, 0), made(t, 2, 1, 3, 0)
	wantEstimate(t, a, set(1, 3), true, api.OK)
	wantEstimate(t, b, set(1, 3), true, api.OK)
	for range 2 {
		p, q := a.Proposal(), b.Proposal()
		wantTake(t, a, 1, 3, q, false, api.OK)
		wantTake(t, b, 0, 1, p, false, api.OK)
	}
	both := view(id(1, 0, 1, 2), 0, 1, 2, 1, 3, 2)
	wantInstall(t, a, both, 0)
	wantInstall(t, b, both, 1)
	wantEstimate(t, b, set(0, 3), true, api.OK)
	wantTake(t, a, 1, 3, b.Proposal(), true, api.OK)
	wantStand(t, a, both, true)
}

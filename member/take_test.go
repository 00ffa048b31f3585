package member_test

import (
	"slices"
	"testing"

	"quorate/api"
	"quorate/member"
)

// good is a proposal of node 0's incarnation 4 that is valid, and newer than all that the busy agents have taken.
func good() api.Propose {
	return prop(slices.Clone(busySet), 3, 50, 9, busyView.ID, 3, 0, 2, 1, 0)
}

func wantRefused(t *testing.T, a *member.Agent, q, inc int, p api.Propose, want api.Errno) {
	t.Helper()
	if begun, e := a.Take(q, inc, p); begun || e != want {
		t.Errorf("P6.3: Take(%d, %d, %v) = %v, error %d, want false, error %d", q, inc, p, begun, e, want)
	}
}

// TestArgumentsFirst: ErrArg, whatever else is true of the proposal.
func TestArgumentsFirst(t *testing.T) {
	stale := good()
	stale.Rev = 1
	wantUnchanged(t, "P6.3: ErrArg", func(a *member.Agent) {
		for _, p := range []api.Propose{good(), stale, {}} {
			for _, q := range append(far(), 2, 5, 6, api.MaxNodes-1, api.MaxNodes, api.MaxCount) {
				for _, inc := range []int{1, 3, 4, 7, api.MaxCount, 0} {
					wantRefused(t, a, q, inc, p, api.ErrArg)
				}
			}
			for _, q := range []int{0, 1, 3, 4} {
				for _, inc := range append(far(), 0) {
					wantRefused(t, a, q, inc, p, api.ErrArg)
				}
			}
		}
		zeroed := good()
		zeroed.Set[0], zeroed.Vec[0], zeroed.Cid = 0, 0, 0
		wantRefused(t, a, 0, 0, zeroed, api.ErrArg)
	})
}

// bent is a good proposal of which one thing was changed.
func bent(bend func(p *api.Propose)) api.Propose {
	p := good()
	bend(&p)
	return p
}

// badLists are proposals of which a list is wrong.
func badLists() []api.Propose {
	list := []api.Propose{
		bent(func(p *api.Propose) { p.Set = nil }),
		bent(func(p *api.Propose) { p.Vec = nil }),
		bent(func(p *api.Propose) { p.Set, p.Vec = p.Set[:4], p.Vec[:4] }),
		bent(func(p *api.Propose) { p.Set, p.Vec = append(p.Set, 0), append(p.Vec, 0) }),
		bent(func(p *api.Propose) { p.Vec[1] = 1 }),
		bent(func(p *api.Propose) { p.Vec[4] = api.MaxCount }),
		bent(func(p *api.Propose) { p.Vec[0] = 2 }),
		bent(func(p *api.Propose) { p.Vec[0] = 0 }),
		bent(func(p *api.Propose) { p.Cid = 4 }),
	}
	for n := range 12 {
		if n != 5 {
			room := make([]int, 12)
			list = append(list, bent(func(p *api.Propose) { p.Set = append(p.Set, room...)[:n] }))
			list = append(list, bent(func(p *api.Propose) { p.Vec = append(p.Vec, room...)[:n] }))
		}
	}
	for _, v := range far() {
		for q := range 5 {
			list = append(list, bent(func(p *api.Propose) { p.Set[q] = v }))
			list = append(list, bent(func(p *api.Propose) { p.Vec[q] = v }))
		}
	}
	for _, inc := range []int{0, 1, 3, 5, api.MaxCount} {
		list = append(list, bent(func(p *api.Propose) { p.Set[0] = inc }))
	}
	return list
}

// badNumbers are proposals of which a number is wrong.
func badNumbers() []api.Propose {
	var list []api.Propose
	for _, v := range append(far(), 0) {
		list = append(list, bent(func(p *api.Propose) { p.Cid, p.Vec[0] = v, v }))
		list = append(list, bent(func(p *api.Propose) { p.Cid = v }))
		list = append(list, bent(func(p *api.Propose) { p.Rev = v }))
		list = append(list, bent(func(p *api.Propose) { p.Prev.Epoch = v }))
		list = append(list, bent(func(p *api.Propose) { p.Prev.Inc = v }))
		list = append(list, bent(func(p *api.Propose) { p.Prev.Cid = v }))
	}
	for _, v := range append(far(), api.MaxCount) {
		list = append(list, bent(func(p *api.Propose) { p.Top = v }))
	}
	for _, v := range append(far(), 5, 6, api.MaxNodes-1, api.MaxNodes, api.MaxCount) {
		list = append(list, bent(func(p *api.Propose) { p.Prev.Lead = v }))
	}
	for _, v := range []api.ViewID{id(1, 0, 0, 0), id(0, 1, 0, 0), id(0, 0, 1, 0), id(0, 0, 0, 1), id(0, 1, 1, 1), id(-1, 0, 0, 0)} {
		list = append(list, bent(func(p *api.Propose) { p.Prev = v }))
	}
	return list
}

// TestInvalidSecond: ErrSet, whether it would be old or stale or new.
func TestInvalidSecond(t *testing.T) {
	wantUnchanged(t, "P6.3: ErrSet", func(a *member.Agent) {
		for _, p := range append(badLists(), badNumbers()...) {
			wantRefused(t, a, 0, 4, p, api.ErrSet)
			if p.Rev == good().Rev { // stale besides
				p.Rev = 1
				wantRefused(t, a, 0, 4, p, api.ErrSet)
			}
			if len(p.Set) > 0 && p.Set[0] == 4 { // old besides
				p.Set[0] = 3
				wantRefused(t, a, 0, 3, p, api.ErrSet)
			}
		}
		for _, inc := range []int{1, 3, 5, api.MaxCount} {
			wantRefused(t, a, 0, inc, good(), api.ErrSet)
		}
		for _, q := range []int{1, 3, 4} {
			wantRefused(t, a, q, 4, good(), api.ErrSet)
		}
	})
}

// TestOldThenStale: an older incarnation goes ahead of an older Rev.
func TestOldThenStale(t *testing.T) {
	wantUnchanged(t, "P6.3: ErrOld", func(a *member.Agent) {
		for inc := 1; inc < 4; inc++ {
			for _, rev := range []int{1, 10, 12, 50, api.MaxCount} {
				p := good()
				p.Set[0], p.Rev = inc, rev
				wantRefused(t, a, 0, inc, p, api.ErrOld)
			}
		}
	})
	for _, c := range []struct {
		make func(*testing.T) *member.Agent
		last int
	}{{inView, 10}, {atOdds, 11}, {atOne, 12}} {
		a := c.make(t)
		for rev := 1; rev <= c.last; rev++ {
			p := good()
			p.Rev = rev
			wantRefused(t, a, 0, 4, p, api.ErrStale)
			p.Cid, p.Vec[0] = api.MaxCount, api.MaxCount
			wantRefused(t, a, 0, 4, p, api.ErrStale)
		}
		wantSame(t, "P6.3: ErrStale", a, c.make(t))
		a = c.make(t)
		p := good()
		p.Rev = c.last + 1
		if _, e := a.Take(0, 4, p); e != api.OK {
			t.Errorf("P6.3: the next Rev: error %d", e)
		}
		wantRefused(t, a, 0, 4, p, api.ErrStale)
	}
}

// TestNewIncarnation: its Rev may be smaller, and the older one is old from then on.
func TestNewIncarnation(t *testing.T) {
	for _, make := range []func(*testing.T) *member.Agent{inView, atOdds, atOne} {
		for _, inc := range []int{5, api.MaxCount} {
			a := make(t)
			changing := a.Changing()
			wantTake(t, a, 0, inc, prop(set(inc, 0, 7, 5, 0), 9, 1, 0, none, 9, 0, 0, 0, 0), false, api.OK)
			wantStand(t, a, busyView, changing)
			wantTake(t, a, 0, 4, good(), false, api.ErrOld)
			wantApart(t, a)
		}
	}
}

// TestEdgesAreTaken: the greatest and the smallest numbers of a proposal.
func TestEdgesAreTaken(t *testing.T) {
	const top = api.MaxCount
	for _, p := range []api.Propose{
		prop(set(top, 0, top, top), top, top, top-1, id(top, 3, top, top), top, 0, top, top),
		prop(set(top, 0, top, top), 1, 1, 0, none, 1, 0, 0, 0),
		prop(set(top, 0, 0, 0), 1, 1, 0, id(1, 0, 1, 1), 1, 0, 0, 0),
		prop(set(top, 1, 1, 1), 1, top, 0, id(1, 3, 1, 1), 1, 1, 1, 1),
	} {
		a := made(t, 4, 1, 1, 0)
		wantTake(t, a, 0, top, p, false, api.OK)
		wantTake(t, a, 0, top, p, false, api.ErrStale)
		if want := p.Set[1] == 1; want {
			wantEstimate(t, a, p.Set, true, api.OK)
			wantProposal(t, a, prop(p.Set, 2, 2, 0, none, p.Cid, 2, 0, 0))
		}
	}
}

// TestGreatestAgreed: a view's Epoch and Cids up to MaxCount.
func TestGreatestAgreed(t *testing.T) {
	const top = api.MaxCount
	a := made(t, 2, 1, top, top-2)
	wantEstimate(t, a, set(top, top), true, api.OK)
	wantTake(t, a, 0, top, prop(set(top, top), top, top, top-1, none, top, top), false, api.OK)
	wantAgreed(t, a, view(id(top, 0, top, top), 0, top, top, 1, top, top), 1)
}

// TestVecWhileChanging: it follows the latest proposals, and Rev rises just when something changed.
func TestVecWhileChanging(t *testing.T) {
	a := made(t, 3, 0, 1, 0)
	s := set(1, 2, 3)
	wantEstimate(t, a, s, true, api.OK)
	wantTake(t, a, 1, 2, prop(s, 5, 1, 0, none, 0, 5, 0), false, api.OK)
	wantProposal(t, a, prop(s, 2, 3, 0, none, 2, 5, 0))
	wantTake(t, a, 1, 2, prop(s, 5, 2, 0, none, 2, 5, 0), false, api.OK)
	wantProposal(t, a, prop(s, 2, 3, 0, none, 2, 5, 0))
	wantTake(t, a, 1, 2, prop(s, 6, 3, 0, none, 2, 6, 0), false, api.OK)
	wantProposal(t, a, prop(s, 2, 4, 0, none, 2, 6, 0))
	wantTake(t, a, 2, 3, prop(set(0, 2, 3), 4, 1, 0, none, 0, 0, 4), false, api.OK)
	wantProposal(t, a, prop(s, 2, 4, 0, none, 2, 6, 0))
	wantTake(t, a, 2, 3, prop(s, 4, 2, 0, none, 2, 6, 4), false, api.OK)
	wantProposal(t, a, prop(s, 2, 5, 0, none, 2, 6, 4))
	wantApart(t, a)
	wantTake(t, a, 1, 2, prop(set(1, 2, 0), 6, 4, 0, none, 2, 6, 0), false, api.OK)
	wantProposal(t, a, prop(s, 2, 6, 0, none, 2, 0, 4))
	wantTake(t, a, 1, 2, prop(s, 2, 5, 0, none, 2, 2, 4), false, api.OK) // a Cid may fall: what is latest is told by the Rev alone
	wantProposal(t, a, prop(s, 2, 7, 0, none, 2, 2, 4))
	wantTake(t, a, 1, 7, prop(set(1, 7, 3), 1, 1, 0, none, 2, 1, 4), false, api.OK)
	wantProposal(t, a, prop(s, 2, 8, 0, none, 2, 0, 4))
	wantStand(t, a, api.View{}, true)
}

// TestInAView: who makes a change begin, and who does not.
func TestInAView(t *testing.T) {
	own := inView(t).Proposal()
	changed := prop(busySet, own.Cid+1, own.Rev+1, 9, busyView.ID, 0, 0, own.Cid+1, 0, 0)
	for _, c := range []struct {
		q, inc int
		p      api.Propose
		begun  bool
	}{
		{0, 4, prop(busySet, 2, 50, 9, busyView.ID, 2, 0, 3, 6, 0), false},
		{0, 4, prop(busySet, 1, 50, 0, none, 1, 0, 0, 0, 0), false},
		{0, 4, prop(set(4, 0, 0, 0, 0), 2, 50, 0, none, 2, 0, 0, 0, 0), false},
		{0, 5, prop(set(5, 0, 7, 5, 0), 9, 50, 0, none, 9, 0, 0, 0, 0), false},
		{1, 1, prop(set(0, 1, 7, 0, 0), 9, 50, 0, none, 0, 9, 0, 0, 0), false},
		{4, 2, prop(set(4, 0, 7, 5, 2), 9, 50, 0, none, 0, 0, 0, 0, 9), false},
		{4, api.MaxCount, prop(set(4, 0, 7, 5, api.MaxCount), 9, 50, 0, none, 0, 0, 0, 0, 9), false},
		{0, 4, prop(busySet, 3, 50, 9, busyView.ID, 3, 0, 0, 0, 0), true},
		{0, 4, prop(busySet, api.MaxCount, api.MaxCount, 0, none, api.MaxCount, 0, 0, 0, 0), true},
		{0, 4, prop(set(4, 0, 0, 0, 0), 3, 50, 9, busyView.ID, 3, 0, 0, 0, 0), true},
		{3, 5, prop(busySet, 7, 50, 9, busyView.ID, 0, 0, 0, 7, 0), true},
		{3, 5, prop(busySet, 6, 50, 9, busyView.ID, 0, 0, 0, 6, 0), false},
	} {
		a := inView(t)
		wantTake(t, a, c.q, c.inc, c.p, c.begun, api.OK)
		wantStand(t, a, busyView, c.begun)
		if !c.begun {
			wantProposal(t, a, own)
			wantApart(t, a)
			continue
		}
		want := changed
		want.Vec = set(2, 0, own.Cid+1, 6, 0)
		want.Vec[c.q] = 0
		if slices.Equal(c.p.Set, busySet) {
			want.Vec[c.q] = c.p.Cid
		}
		wantProposal(t, a, want)
	}
}

// TestTakenInAViewCounts: what was taken in a view is known in the change behind it.
func TestTakenInAViewCounts(t *testing.T) {
	a := inView(t)
	wantTake(t, a, 3, 5, prop(set(4, 0, 7, 5, 2), 6, 20, 9, busyView.ID, 0, 0, 0, 6, 0), false, api.OK)
	wantTake(t, a, 4, 2, prop(set(4, 0, 7, 5, 2), 8, 20, 0, none, 0, 0, 0, 0, 8), false, api.OK)
	wantEstimate(t, a, set(4, 0, 7, 5, 2), true, api.OK)
	wantProposal(t, a, prop(set(4, 0, 7, 5, 2), 4, a.Proposal().Rev, 9, busyView.ID, 0, 0, 4, 6, 8))
}

// TestTakeSpent: a change that would have to begin and cannot; what was handed in is not kept then.
func TestTakeSpent(t *testing.T) {
	for _, make := range []func(*testing.T) *member.Agent{lastEpoch, lastCid} {
		a := make(t)
		vec := a.Proposal().Vec
		leaving := prop(set(1, 5, 0), 2, 9, 0, none, vec[0], 2, 0)
		for range 3 {
			wantTake(t, a, 1, 5, leaving, false, api.ErrSpent)
		}
		old := leaving
		old.Set = set(1, 4, 0)
		stale := leaving
		stale.Rev = 1
		invalid := leaving
		invalid.Rev = 0
		wantTake(t, a, 1, 4, old, false, api.ErrOld)
		wantTake(t, a, 1, 5, stale, false, api.ErrStale)
		wantTake(t, a, 1, 5, invalid, false, api.ErrSet)
		wantTake(t, a, 0, 1, leaving, false, api.ErrArg)
		wantSame(t, "P6.3: ErrSpent", a, make(t))

		a = make(t)
		was := look(a)
		wantTake(t, a, 1, 5, leaving, false, api.ErrSpent)
		wantTake(t, a, 1, 5, prop(set(1, 5, 0), 1, 2, 0, none, vec[0], 1, 0), false, api.OK)
		wantTake(t, a, 1, 6, prop(set(1, 6, 0), 9, 1, 0, none, 0, 9, 0), false, api.OK)
		wantTake(t, a, 2, 6, prop(set(1, 5, 6), 9, 1, 0, none, 0, 0, 9), false, api.OK)
		if got := look(a); !sameSeen(got, was) {
			t.Errorf("P6.3: in a view it tells %v, want %v", got, was)
		}
	}
}

// TestLastCidInAChange: taking goes on where no change can begin any more.
func TestLastCidInAChange(t *testing.T) {
	a := made(t, 2, 0, 1, api.MaxCount-2)
	wantEstimate(t, a, set(1, 5), true, api.OK)
	wantTake(t, a, 1, 5, prop(set(1, 5), 1, 1, 0, none, 0, 1), false, api.OK)
	wantTake(t, a, 1, 5, prop(set(1, 5), 2, 2, 0, none, api.MaxCount, 2), false, api.OK)
	wantProposal(t, a, prop(set(1, 5), api.MaxCount, 4, api.MaxCount-2, none, api.MaxCount, 2))
	wantInstall(t, a, view(id(api.MaxCount-1, 0, 1, api.MaxCount), 0, 1, api.MaxCount, 1, 5, 2), 0)
}

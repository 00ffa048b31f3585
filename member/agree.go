package member

import (
	"slices"

	"quorate/api"
)

// Agreed is the view that all agree on, and who comes from the same view as this node; false: there is none.
func (a *Agent) Agreed() (api.View, []int, bool) {
	if !a.isAgreed() {
		return api.View{}, nil, false
	}
	return a.agreedView(), a.transitional(), true
}

// Install makes the agreed view the present one.
func (a *Agent) Install() (api.View, []int, api.Errno) {
	view, trans, agreed := a.Agreed()
	if !agreed {
		return api.View{}, nil, api.ErrApart
	}
	a.view, a.changing = view, false
	return a.View(), trans, api.OK
}

// View is the present view (no members: none yet).
func (a *Agent) View() api.View {
	return api.View{ID: a.view.ID, Members: slices.Clone(a.view.Members)}
}

// wanted are the nodes of the own Set for which a question is answered with true, by rising number.
func (a *Agent) wanted(ask func(q int) bool) []int {
	var l []int
	for q := range a.nodes {
		if a.own.set[q] != 0 && ask(q) {
			l = append(l, q)
		}
	}
	return l
}

// isAgreed tells whether there is agreement.
func (a *Agent) isAgreed() bool {
	// A Vec that was taken has its sender's Cid in it, so an equal one says too that the own Vec is not 0 there.
	apart := func(q int) bool { return q != a.self && a.latest[q].vec != a.own.vec }
	return a.changing && len(a.wanted(apart)) == 0
}

// agreedView is the view that follows from what all in the own Set propose.
func (a *Agent) agreedView() api.View {
	top := a.own.top
	var members []api.Member
	for _, q := range a.wanted(func(int) bool { return true }) {
		members = append(members, api.Member{Pid: q, Inc: a.own.set[q], Cid: a.own.vec[q]})
		top = max(top, a.latest[q].top)
	}
	first := members[0]
	return api.View{
		ID:      api.ViewID{Epoch: top + 1, Lead: first.Pid, Inc: first.Inc, Cid: first.Cid},
		Members: members,
	}
}

// transitional are those in the own Set that come from the same view as this node.
func (a *Agent) transitional() []int {
	return a.wanted(func(q int) bool {
		return q == a.self || a.own.prev != (api.ViewID{}) && a.latest[q].prev == a.own.prev
	})
}

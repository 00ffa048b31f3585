package audit

import (
	"slices"

	"quorate/api"
)

// mayBeMade is rule 1: who may make marks.
func (g *group) mayBeMade(m api.Mark) bool {
	if m.At < g.at || !within(m.Kind, api.MarkBoot, api.MarkLeave) {
		return false
	}
	if m.Kind == api.MarkRound {
		return maker(m) == who{} && m.N == g.rounds+1
	}
	if !within(m.Node, 0, api.MaxNodes-1) {
		return false
	}
	n := g.nodes[m.Node]
	switch m.Kind {
	case api.MarkBoot:
		return !n.up && m.Inc > n.inc
	case api.MarkCrash:
		return n.up && m.Inc == n.inc
	}
	return n.up && m.Inc == n.inc && !n.halted
}

// holdsItsOwn is rule 2: a view holds its own, and epochs rise.
func (g *group) holdsItsOwn(m api.Mark) bool {
	if !areMembers(m.Members) || m.ID.Epoch <= g.now(m).id.Epoch {
		return false
	}
	leader := api.Member{Pid: m.ID.Lead, Inc: m.ID.Inc, Cid: m.ID.Cid}
	isMaker := func(x api.Member) bool { return incarnationOf(x) == maker(m) }
	return leader == m.Members[0] && slices.ContainsFunc(m.Members, isMaker)
}

// incarnationOf is the incarnation that is a member.
func incarnationOf(x api.Member) who { return who{x.Pid, x.Inc} }

// areMembers tells whether a list can be that of a view's members.
func areMembers(l []api.Member) bool {
	isMember := func(x api.Member) bool { return within(x.Pid, 0, api.MaxNodes-1) && x.Inc >= 1 && x.Cid >= 1 }
	rise := func(x, next api.Member) bool { return x.Pid < next.Pid }
	return len(l) > 0 && all(l, isMember) && neighbours(l, rise) // as they rise, there are no more than MaxNodes
}

// earlier are those that installed a mark's view ahead of it.
func (g *group) earlier(m api.Mark) []*visit {
	if w := g.views[m.ID]; w != nil {
		return w.visitors
	}
	return nil
}

// isOneSet is rule 3: one ID, one set. Who has installed a view cannot do it again: rule 2 asks for a greater epoch.
func (g *group) isOneSet(m api.Mark) bool {
	return all(g.earlier(m), func(v *visit) bool { return slices.Equal(v.members, m.Members) })
}

// tellsTransitional is rule 4: transitional sets.
func (g *group) tellsTransitional(m api.Mark) bool {
	from := g.now(m)
	if !isPart(m.Trans, m.Members) || !slices.Contains(m.Trans, m.Node) || !from.hasView() && len(m.Trans) > 1 {
		return false
	}
	return all(g.earlier(m), func(v *visit) bool {
		together := from.hasView() && v.from.id == from.id
		return slices.Contains(m.Trans, v.pid) == together && slices.Contains(v.trans, m.Node) == together
	})
}

// isPart tells whether a list is a strictly rising one of members' pids.
func isPart(pids []int, members []api.Member) bool {
	rise := func(pid, next int) bool { return pid < next }
	return neighbours(pids, rise) && all(pids, func(pid int) bool { return memberOf(members, pid) >= 0 })
}

// memberOf is the place of the member with this pid; below 0: there is none.
func memberOf(members []api.Member, pid int) int {
	return slices.IndexFunc(members, func(x api.Member) bool { return x.Pid == pid })
}

// isOpen is rule 5 for a block.
func (g *group) isOpen(m api.Mark) bool { return !g.now(m).blocked }

// isBlocked is rule 5 for an install.
func (g *group) isBlocked(m api.Mark) bool { return g.now(m).blocked }

// endsAlike is rule 9: view synchrony. Those that come from no view have delivered nothing there.
func (g *group) endsAlike(m api.Mark) bool {
	from := g.now(m)
	return all(g.earlier(m), func(v *visit) bool {
		return v.from.id != from.id || len(v.from.delivered) == len(from.delivered)
	})
}

// tellsLost is rule 11: what was accepted and not delivered is told as lost.
func (g *group) tellsLost(m api.Mark) bool {
	from := g.now(m)
	return m.N == len(from.accepted)-from.counts[m.Node]
}

package audit

import (
	"bytes"

	"quorate/api"
)

// mayAccept is rule 6. Who is not blocked is in a view.
func (g *group) mayAccept(m api.Mark) bool {
	v := g.now(m)
	return !v.blocked && m.ID == v.id && m.Seq == len(v.accepted)+1
}

// wasAccepted is rule 7: what is delivered was accepted in the view, and each sender's messages come in their order.
func (g *group) wasAccepted(m api.Mark) bool {
	v := g.now(m)
	from := g.sender(m)
	return m.ID == v.id && from != nil &&
		within(m.Seq, 1, len(from.accepted)) && bytes.Equal(m.Body, from.accepted[m.Seq-1]) &&
		m.Seq == v.counts[m.Sender]+1 && m.Pos > v.last()
}

// sender is the time in the view of the one that a mark names as a message's sender; nil: there is none.
func (g *group) sender(m api.Mark) *visit {
	v := g.now(m)
	k := memberOf(v.members, m.Sender)
	if k < 0 {
		return nil
	}
	return g.visits[visitKey{incarnationOf(v.members[k]), v.id}]
}

// isInOrder is rule 8: one order. What another has delivered as its k-th stands as the k-th of the longest list too.
func (g *group) isInOrder(m api.Mark) bool {
	k, order := len(g.now(m).delivered), g.views[m.ID].order
	return k >= len(order) || order[k] == placeOf(m)
}

// isWithAll is rule 10: what is told safe, every member has delivered.
func (g *group) isWithAll(m api.Mark) bool {
	v := g.now(m)
	return m.ID == v.id && !v.blocked && m.Pos > v.safe && all(v.members, func(x api.Member) bool {
		other := g.visits[visitKey{incarnationOf(x), v.id}]
		return other != nil && other.upto(m.Pos) == v.upto(m.Pos)
	})
}

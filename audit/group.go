package audit

import (
	"sort"

	"quorate/api"
)

// group is what is kept of a group while its marks are gone through. All of it is that of a trace that broke no rule.
type group struct {
	at     int // of the last mark
	rounds int // how many there were
	nodes  [api.MaxNodes]node
	views  map[api.ViewID]*view
	visits map[visitKey]*visit
}

// node is what is kept of a pid.
type node struct {
	up     bool
	inc    int // the last incarnation; 0: it has not been up
	halted bool
	now    *visit
}

// view is what is kept of a view.
type view struct {
	visitors []*visit // those that installed it
	order    []place  // the longest list of what one of them delivered: the others' lists are its beginnings
}

// visitKey names an incarnation's time in a view.
type visitKey struct {
	who
	id api.ViewID
}

// visit is an incarnation's time in a view; with the zero ID, its time from its boot to its first view.
type visit struct {
	visitKey
	members   []api.Member
	from      *visit // ahead of it
	trans     []int
	blocked   bool
	accepted  [][]byte // the bodies, by Seq
	delivered []place
	counts    [api.MaxNodes]int // by sender: how many of its messages were delivered
	safe      int
}

// place is where a message stands in a view's order. Its body is the one that was accepted under this number: rule 7 sees to it.
type place struct {
	pos, sender, seq int
}

func placeOf(m api.Mark) place { return place{m.Pos, m.Sender, m.Seq} }

func newGroup() *group {
	return &group{views: map[api.ViewID]*view{}, visits: map[visitKey]*visit{}}
}

// now is where the maker of a mark is. Rule 1 has seen to it that it is up.
func (g *group) now(m api.Mark) *visit { return g.nodes[m.Node].now }

// hasView tells whether it is a time in a view.
func (v *visit) hasView() bool { return v.id != api.ViewID{} }

// last is the position that was delivered last.
func (v *visit) last() int {
	if len(v.delivered) == 0 {
		return 0
	}
	return v.delivered[len(v.delivered)-1].pos
}

// upto is how many messages were delivered up to a position.
func (v *visit) upto(pos int) int {
	return sort.Search(len(v.delivered), func(i int) bool { return v.delivered[i].pos > pos })
}

// rules are those of the group, by their numbers.
func (g *group) rules() []rule {
	return []rule{
		{1, every, g.mayBeMade},
		{2, api.MarkInstall, g.holdsItsOwn},
		{3, api.MarkInstall, g.isOneSet},
		{4, api.MarkInstall, g.tellsTransitional},
		{5, api.MarkBlock, g.isOpen},
		{5, api.MarkInstall, g.isBlocked},
		{6, api.MarkSend, g.mayAccept},
		{7, api.MarkDeliver, g.wasAccepted},
		{8, api.MarkDeliver, g.isInOrder},
		{9, api.MarkInstall, g.endsAlike},
		{10, api.MarkSafe, g.isWithAll},
		{11, api.MarkInstall, g.tellsLost},
	}
}

// keep keeps what a mark tells.
func (g *group) keep(m api.Mark) {
	g.at = m.At
	if m.Kind == api.MarkRound {
		g.rounds++
		return
	}
	n := &g.nodes[m.Node]
	switch m.Kind {
	case api.MarkBoot:
		*n = node{up: true, inc: m.Inc, now: &visit{visitKey: visitKey{who: maker(m)}, blocked: true}}
	case api.MarkCrash:
		n.up = false
	case api.MarkHalt:
		n.halted = true
	case api.MarkBlock:
		n.now.blocked = true
	case api.MarkInstall:
		n.now = g.enter(m)
	case api.MarkSend:
		n.now.accepted = append(n.now.accepted, m.Body)
	case api.MarkDeliver:
		g.deliver(m)
	case api.MarkSafe:
		n.now.safe = m.Pos
	}
}

// enter begins an incarnation's time in its next view.
func (g *group) enter(m api.Mark) *visit {
	v := &visit{visitKey: visitKey{maker(m), m.ID}, members: m.Members, from: g.now(m), trans: m.Trans}
	g.visits[v.visitKey] = v
	if g.views[m.ID] == nil {
		g.views[m.ID] = &view{}
	}
	w := g.views[m.ID]
	w.visitors = append(w.visitors, v)
	return v
}

// deliver adds a message to what was delivered.
func (g *group) deliver(m api.Mark) {
	v, w := g.now(m), g.views[m.ID]
	v.delivered = append(v.delivered, placeOf(m))
	v.counts[m.Sender]++
	if len(v.delivered) > len(w.order) {
		w.order = append(w.order, placeOf(m))
	}
}

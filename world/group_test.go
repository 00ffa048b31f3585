package world_test

import (
	"bytes"
	"slices"
	"testing"

	"quorate/api"
)

// who is an incarnation of a node.
type who struct{ node, inc int }

// stay is an incarnation's time in a view.
type stay struct {
	id, from  api.ViewID // from: the view ahead of it
	members   []api.Member
	blocked   bool
	sent      [][]byte
	behind    []int // by message that was sent: the position that was delivered last
	delivered []api.Mark
}

// count is how many messages of a node were delivered.
func (s *stay) count(node int) int {
	n := 0
	for _, m := range s.delivered {
		if m.Sender == node {
			n++
		}
	}
	return n
}

// upto is how many messages were delivered up to a position.
func (s *stay) upto(pos int) int {
	n := 0
	for _, m := range s.delivered {
		if m.Pos <= pos {
			n++
		}
	}
	return n
}

// last is the position that was delivered last.
func (s *stay) last() int {
	if len(s.delivered) == 0 {
		return 0
	}
	return s.delivered[len(s.delivered)-1].Pos
}

// place is an incarnation in a view.
type place struct {
	who
	id api.ViewID
}

// groupWatch holds the marks of a trace against P3 to P6, P13, P14 and P15.
type groupWatch struct {
	t      testing.TB
	window int
	up     map[int]int   // by node: the incarnation that is up
	latest map[int]int   // by node: the last incarnation
	now    map[who]*stay // where an incarnation is
	stays  map[place]*stay
	views  map[api.ViewID][]api.Member
	orders map[api.ViewID][]api.Mark // the longest list of what was delivered
}

func watchingGroup(t testing.TB, window int) *groupWatch {
	return &groupWatch{t: t, window: window, up: map[int]int{}, latest: map[int]int{}, now: map[who]*stay{}, stays: map[place]*stay{}, views: map[api.ViewID][]api.Member{}, orders: map[api.ViewID][]api.Mark{}}
}

func (w *groupWatch) take(m api.Mark) {
	w.t.Helper()
	if m.Kind == api.MarkRound {
		return
	}
	if inc := w.up[m.Node]; m.Kind == api.MarkBoot && (inc != 0 || m.Inc <= w.latest[m.Node]) || m.Kind != api.MarkBoot && inc != m.Inc {
		w.t.Fatalf("P13: the incarnation %d of node %d is up: %+v", inc, m.Node, m)
	}
	me := who{m.Node, m.Inc}
	s := w.now[me]
	switch m.Kind {
	case api.MarkBoot:
		w.up[m.Node], w.latest[m.Node] = m.Inc, m.Inc
		w.now[me] = &stay{blocked: true}
	case api.MarkCrash:
		w.up[m.Node] = 0
	case api.MarkHalt:
		w.t.Fatalf("P15: %+v", m)
	case api.MarkBlock:
		if s.blocked || m.ID != s.id {
			w.t.Fatalf("P6: in the view %v, blocked %v: %+v", s.id, s.blocked, m)
		}
		s.blocked = true
	case api.MarkInstall:
		w.install(me, s, m)
	case api.MarkSend:
		w.send(s, m)
	case api.MarkDeliver:
		w.deliver(s, m)
	case api.MarkSafe:
		w.safe(s, m)
	}
}

// install: P3, P4 and P14.
func (w *groupWatch) install(me who, s *stay, m api.Mark) {
	w.t.Helper()
	mine := slices.ContainsFunc(m.Members, func(x api.Member) bool { return x.Pid == me.node && x.Inc == me.inc })
	if !mine || m.ID.Epoch <= s.id.Epoch || !s.blocked {
		w.t.Fatalf("P3 and P6: behind the view %v, blocked %v: %+v", s.id, s.blocked, m)
	}
	if members, is := w.views[m.ID]; is && !slices.Equal(members, m.Members) {
		w.t.Fatalf("P3: the view %v has the members %v and %v", m.ID, members, m.Members)
	}
	if lost := len(s.sent) - s.count(me.node); m.N != lost {
		w.t.Fatalf("P14: %d messages are lost, told: %+v", lost, m)
	}
	w.views[m.ID] = m.Members
	next := &stay{id: m.ID, from: s.id, members: m.Members}
	for p, other := range w.stays {
		if p.id != m.ID || other.from != s.id || s.id == (api.ViewID{}) {
			continue
		}
		if n := len(w.stays[place{p.who, s.id}].delivered); n != len(s.delivered) {
			w.t.Fatalf("P4: %v and %v come from %v to %v with %d and %d messages", me, p.who, s.id, m.ID, len(s.delivered), n)
		}
	}
	w.now[me], w.stays[place{me, m.ID}] = next, next
}

// send: P6; P12: what waits has its bounds.
func (w *groupWatch) send(s *stay, m api.Mark) {
	w.t.Helper()
	if s.blocked || m.ID != s.id || m.Seq != len(s.sent)+1 {
		w.t.Fatalf("P5 and P6: behind %d messages in the view %v, blocked %v: %+v", len(s.sent), s.id, s.blocked, m)
	}
	s.sent, s.behind = append(s.sent, m.Body), append(s.behind, s.last())
	if n := len(s.sent) - s.count(m.Node); n > api.MaxQueue+w.window {
		w.t.Fatalf("P12: %d messages of one node wait", n)
	}
}

// deliver: P5.
func (w *groupWatch) deliver(s *stay, m api.Mark) {
	w.t.Helper()
	k := slices.IndexFunc(s.members, func(x api.Member) bool { return x.Pid == m.Sender })
	if k < 0 || m.ID != s.id || m.Seq != s.count(m.Sender)+1 || m.Pos <= s.last() {
		w.t.Fatalf("P5: behind the position %d and %d messages of this sender in the view %v: %+v", s.last(), s.count(m.Sender), s.id, m)
	}
	from := w.stays[place{who{m.Sender, s.members[k].Inc}, m.ID}]
	if from == nil || m.Seq > len(from.sent) || !bytes.Equal(from.sent[m.Seq-1], m.Body) {
		w.t.Fatalf("P5: what was delivered was not sent so: %+v", m)
	}
	if m.Pos <= from.behind[m.Seq-1] {
		w.t.Fatalf("P5: what was sent behind the delivery of %d stands ahead of it: %+v", from.behind[m.Seq-1], m)
	}
	s.delivered = append(s.delivered, m)
	order := w.orders[m.ID]
	if n := len(s.delivered); n > len(order) {
		w.orders[m.ID] = append(order, m)
	} else if x := order[n-1]; x.Pos != m.Pos || x.Sender != m.Sender || x.Seq != m.Seq {
		w.t.Fatalf("P5: as number %d stand %+v and %+v", n, x, m)
	}
}

// safe: P5.
func (w *groupWatch) safe(s *stay, m api.Mark) {
	w.t.Helper()
	for _, x := range s.members {
		if other := w.stays[place{who{x.Pid, x.Inc}, s.id}]; m.ID != s.id || other == nil || other.upto(m.Pos) != s.upto(m.Pos) {
			w.t.Fatalf("P5: node %d has not delivered what is told safe: %+v", x.Pid, m)
		}
	}
}

package bound_test

import (
	"slices"
	"testing"

	"quorate/api"
	"quorate/bound"
	"quorate/machine"
	"quorate/quorum"
)

// stand is where a node's present incarnation is.
type stand struct {
	id      api.ViewID
	members []api.Member
	blocked bool
}

// take takes in a mark of the node.
func (s *stand) take(m api.Mark) {
	switch m.Kind {
	case api.MarkBoot, api.MarkCrash:
		*s = stand{blocked: true}
	case api.MarkBlock:
		s.blocked = true
	case api.MarkInstall:
		*s = stand{id: m.ID, members: m.Members}
	}
}

// hasJust tells whether the node is, unblocked, in a view of just this set.
func (s *stand) hasJust(set []int) bool {
	var pids []int
	for _, m := range s.members {
		pids = append(pids, m.Pid)
	}
	return !s.blocked && slices.Equal(pids, set)
}

// areTogether tells whether all nodes of the set are, unblocked, in one and the same view of just them.
func areTogether(stands []stand, set []int) bool {
	for _, p := range set {
		if !stands[p].hasJust(set) || stands[p].id != stands[set[0]].id {
			return false
		}
	}
	return true
}

// alone is a set that is left alone in a script, and the script's trace.
type alone struct {
	t           testing.TB
	s           api.Script
	set         []int
	from, delay int
	marks       []api.Mark
	round       []int // by mark: how many rounds behind from have begun
	total       int   // of them in all
}

// play plays the script and counts its rounds.
func (a *alone) play() {
	a.t.Helper()
	a.marks = played(a.t, a.s)
	for _, m := range a.marks {
		if m.Kind == api.MarkRound && m.At > a.from {
			a.total++
		}
		a.round = append(a.round, a.total)
	}
}

// leftAlone is a script in which the set is left alone, played.
func leftAlone(t testing.TB, s api.Script, set []int) *alone {
	t.Helper()
	from, delay, e := bound.Premise(s, set)
	if e != api.OK {
		t.Fatalf("P18.5: the set %v is not left alone: error %d", set, e)
	}
	a := &alone{t: t, s: s, set: set, from: from, delay: delay}
	a.play()
	return a
}

// isFull tells whether a packet within the set found no room behind from: nothing is promised then.
func (a *alone) isFull() bool {
	return slices.ContainsFunc(a.marks, func(m api.Mark) bool {
		return m.Kind == api.MarkFull && m.At > a.from && slices.Contains(a.set, m.Node) && slices.Contains(a.set, m.N)
	})
}

// numbers are Settle, Deliver and Answer.
func (a *alone) numbers() (settle, deliver, answer int) {
	a.t.Helper()
	get := sure(a.t, "P18.1 to P18.3")
	return get(bound.Settle(a.s.Config, a.delay)), get(bound.Deliver(a.s.Config, a.delay)), get(bound.Answer(a.s.Config, a.delay))
}

// each goes through the marks of the set's nodes.
func (a *alone) each(do func(m api.Mark, round int)) {
	for i, m := range a.marks {
		if m.Kind != api.MarkRound && slices.Contains(a.set, m.Node) {
			do(m, a.round[i])
		}
	}
}

// wantSettled: P18.6 and P7. The settled view's ID, and the round in which the last node got there.
func (a *alone) wantSettled(settle int) (api.ViewID, int) {
	a.t.Helper()
	stands := make([]stand, a.s.Config.Nodes)
	last := 0
	a.each(func(m api.Mark, round int) {
		stands[m.Node].take(m)
		switch {
		case m.Kind == api.MarkBlock || m.Kind == api.MarkInstall:
			last = round
			if round > settle {
				a.t.Fatalf("P18.6: behind the round %d: in the round %d %+v", settle, round, m)
			}
		case m.Kind == api.MarkRefuse && m.Err == api.ErrBlocked && round >= settle:
			a.t.Fatalf("P8: behind the round %d: in the round %d %+v", settle, round, m)
		}
	})
	if !areTogether(stands, a.set) {
		a.t.Fatalf("P18.6: the set %v is not together behind %d rounds: %+v", a.set, a.total, stands)
	}
	return stands[a.set[0]].id, last
}

// message is a blob that was accepted in the settled view.
type message struct{ sender, seq int }

// wantDelivered: P18.7 and P8. The most rounds that a delivery took, of those that are counted.
func (a *alone) wantDelivered(id api.ViewID, settle, deliver int) int {
	a.t.Helper()
	since, got := map[message]int{}, map[message]int{} // from which round on it counts; by how many it was delivered
	most := 0
	a.each(func(m api.Mark, round int) {
		if m.ID != id {
			return
		}
		switch m.Kind {
		case api.MarkSend:
			since[message{m.Node, m.Seq}] = max(round, settle)
		case api.MarkDeliver:
			x := message{m.Sender, m.Seq}
			got[x]++
			most = max(most, round-since[x])
			if round > since[x]+deliver {
				a.t.Fatalf("P18.7: accepted up to the round %d, and in the round %d %+v", since[x], round, m)
			}
		}
	})
	for x, round := range since {
		if a.total >= round+deliver && got[x] != len(a.set) {
			a.t.Fatalf("P18.7: %d of %d nodes have delivered the message %+v of the round %d behind %d rounds", got[x], len(a.set), x, round, a.total)
		}
	}
	return most
}

// wantAnswered: P18.9 and P11, of a set that is quorate. The most rounds that an answer took, of those that are counted, and how many there were.
func (a *alone) wantAnswered(answer int) (most, answers int) {
	a.t.Helper()
	taken := map[int]int{} // by node: since which round a command waits
	a.each(func(m api.Mark, round int) {
		since, pending := taken[m.Node]
		switch m.Kind {
		case api.MarkBoot:
			delete(taken, m.Node)
		case api.MarkDo:
			taken[m.Node] = round
		case api.MarkReply:
			delete(taken, m.Node)
			answers++
			most = max(most, round-since)
			if round > since+answer {
				a.t.Fatalf("P18.9: taken in the round %d, and in the round %d %+v", since, round, m)
			}
		case api.MarkRefuse:
			if !pending && round >= answer {
				a.wantNoCommand(m)
			}
		}
	})
	for p, round := range taken {
		if a.total >= round+answer {
			a.t.Fatalf("P18.9: node %d has not answered what it took in the round %d behind %d rounds", p, round, a.total)
		}
	}
	return most, answers
}

// wantNoCommand: the second half of P18.9: what was refused is no command that the machine takes.
func (a *alone) wantNoCommand(m api.Mark) {
	a.t.Helper()
	c := a.s.Events[m.At-1].Cmd
	c.Client, c.Inc, c.Req = m.Node, m.Inc, 1
	if a.s.Events[m.At-1].Kind == api.EvDo && machine.CheckCommand(c) == api.OK {
		a.t.Fatalf("P18.9: nothing is pending, and it is refused: %+v", m)
	}
}

// isQuorate tells whether the set may go on.
func (a *alone) isQuorate() bool {
	a.t.Helper()
	is, e := quorum.Quorate(a.s.Config.Votes, a.set)
	if e != api.OK {
		a.t.Fatalf("Q2: error %d", e)
	}
	return is
}

// apart is how many rounds behind from end with the set not together.
func (a *alone) apart() int {
	stands := make([]stand, a.s.Config.Nodes)
	n, at := 0, 0
	for i, e := range a.s.Events {
		for ; at < len(a.marks) && a.marks[at].At <= i+1; at++ {
			if m := a.marks[at]; m.Kind != api.MarkRound {
				stands[m.Node].take(m)
			}
		}
		if e.Kind == api.EvRound && i+1 > a.from && !areTogether(stands, a.set) {
			n++
		}
	}
	return n
}

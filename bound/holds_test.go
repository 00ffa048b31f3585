package bound_test

import (
	"fmt"
	"math/rand"
	"slices"
	"testing"

	"quorate/api"
	"quorate/audit"
	"quorate/bound"
)

// seen is how much of what is promised came up, and how near to the bounds (in hundredths of them).
type seen struct {
	scripts, quorate, probed, answers       int
	settled, delivered, accepted, commanded int
}

func (n *seen) wantAtLeast(t *testing.T, least seen) {
	t.Helper()
	t.Logf("%+v", *n)
	if n.scripts < least.scripts || n.quorate < least.quorate || n.probed < least.probed || n.answers < least.answers ||
		n.settled < least.settled || n.delivered < least.delivered || n.accepted < least.accepted || n.commanded < least.commanded {
		t.Errorf("%+v: the test is too weak", *n)
	}
}

// wantAll: P18.6 to P18.9 of a script that was drawn.
func wantAll(a *alone, probed bool, n *seen) {
	a.t.Helper()
	settle, deliver, answer := a.numbers()
	if a.isFull() || a.total < settle {
		return
	}
	n.scripts++
	id, last := a.wantSettled(settle)
	n.settled = max(n.settled, 100*last/settle)
	n.delivered = max(n.delivered, 100*a.wantDelivered(id, settle, deliver)/deliver)
	if probed {
		n.probed++
		n.accepted = max(n.accepted, 100*a.wantAccepted(settle, deliver)/deliver)
	}
	if a.isQuorate() {
		n.quorate++
		most, answers := a.wantAnswered(answer)
		n.commanded, n.answers = max(n.commanded, 100*most/answer), n.answers+answers
	}
	a.wantUnbroken()
}

// wantUnbroken: P9, and with it all that an audit asks for.
func (a *alone) wantUnbroken() {
	a.t.Helper()
	if v := audit.Group(a.marks); v != (api.Verdict{}) {
		a.t.Fatalf("P17.5: %v: %+v", v, a.marks[v.At])
	}
	if v, e := audit.Service(a.marks, a.s.Config.Votes); v != (api.Verdict{}) || e != api.OK {
		a.t.Fatalf("P9: error %d, %v: %+v", e, v, a.marks[v.At])
	}
}

// told is a story told to its end: unrest, and then so long alone that all numbers come up, if the script can have so many rounds.
func told(t testing.TB, st *story, ld load) api.Script {
	t.Helper()
	longest := min(st.c.Base, api.MaxDelay)
	if st.Intn(2) == 0 {
		longest = 1 + st.Intn(longest)
	}
	st.settleDown(longest)
	get := sure(t, "P18.1 to P18.3")
	settle, deliver, answer := get(bound.Settle(st.c, longest)), get(bound.Deliver(st.c, longest)), get(bound.Answer(st.c, longest))
	st.quiet(settle+st.Intn(answer+deliver), longest, ld)
	return st.script()
}

// TestHolds: P18.6 to P18.9 with P7, P8, P9 and P11, in stories with crashes, torn writes, cuts and losses ahead of the time from which on a set is left alone.
func TestHolds(t *testing.T) {
	for part := range int64(4) {
		t.Run(fmt.Sprint(part), func(t *testing.T) {
			t.Parallel()
			var n seen
			for seed := range int64(60) {
				r := rand.New(rand.NewSource(1000*part + seed))
				c := drawnConfig(r)
				if r.Intn(6) == 0 {
					c.Room = 50 + r.Intn(300)
				}
				st := &story{Rand: r, c: c, set: drawnSet(r, c.Nodes)}
				st.unrest(r.Intn(10))
				ld := drawnLoad(r)
				wantAll(leftAlone(t, told(t, st, ld), st.set), ld.probe, &n)
			}
			n.wantAtLeast(t, seen{scripts: 45, quorate: 25, probed: 20, answers: 1000, settled: 25, delivered: 30, accepted: 1, commanded: 10})
		})
	}
}

// TestHoldsOfMany: the same with up to sixteen nodes.
func TestHoldsOfMany(t *testing.T) {
	t.Parallel()
	var n seen
	for seed := range int64(12) {
		r := rand.New(rand.NewSource(5000 + seed))
		c := drawnConfig(r)
		c.Nodes = 7 + r.Intn(10)
		if seed == 0 {
			c.Nodes = api.MaxNodes
		}
		c.Votes = slices.Repeat([]int{1}, c.Nodes)
		st := &story{Rand: r, c: c, set: drawnSet(r, c.Nodes)}
		st.unrest(r.Intn(5))
		wantAll(leftAlone(t, told(t, st, load{often: 4, moves: 10}), st.set), false, &n)
	}
	n.wantAtLeast(t, seen{scripts: 10, quorate: 6, answers: 200, settled: 20})
}

// outages lets nodes be apart for so long that they suspect one another wrongly, again and again: so the timeouts grow.
func (s *story) outages(n int) {
	for range n {
		s.sides(1 + s.Intn(s.c.Nodes))
		s.l = append(s.l, rounds(s.c.Cap+3-s.Intn(1+s.Intn(s.c.Cap)))...)
		s.sides(1)
		s.l = append(s.l, rounds(1+s.Intn(20))...)
	}
}

// TestSettledLate: P18.6 with grown timeouts, and a set that is cut off all at once: so those outside are heard for long still.
func TestSettledLate(t *testing.T) {
	t.Parallel()
	var n seen
	for seed := range int64(80) {
		r := rand.New(rand.NewSource(6000 + seed))
		c := with(config(2+r.Intn(5)), func(c *api.Config) {
			c.Room, c.Base, c.Cap, c.Step = api.MaxRoom, 1+r.Intn(3), 20+r.Intn(45), 10+r.Intn(11)
		})
		if seed%2 == 0 { // one that would soon be far beyond the greatest
			c.Step = c.Cap - 4
		}
		out := r.Intn(c.Nodes)
		st := &story{Rand: r, c: c, set: slices.Delete(all(c.Nodes), out, out+1)}
		st.outages(6)
		sides := make([]int, c.Nodes)
		sides[out] = 1
		st.l = append(st.l, api.Event{Kind: api.EvSplit, Sides: sides})
		st.quiet(sure(t, "P18.1")(bound.Settle(c, 1))+10, 1, load{often: 10})
		a := leftAlone(t, st.script(), st.set)
		wantAll(a, false, &n)
	}
	n.wantAtLeast(t, seen{scripts: 80, quorate: 40, settled: 60})
}

// TestKeptAlone: P18.6: a set that is alone from the beginning on, and keeps its view for thousands of rounds.
func TestKeptAlone(t *testing.T) {
	t.Parallel()
	for nodes := 1; nodes <= 4; nodes++ {
		for base := 1; base <= 3; base++ {
			c := with(config(nodes), func(c *api.Config) { c.Base, c.Room = base, api.MaxRoom })
			var l []api.Event
			for p := range nodes {
				for q := range nodes {
					l = append(l, api.Event{Kind: api.EvDelay, A: p, B: q, N: 1 + (p+q)%base})
				}
			}
			s := api.Script{Config: c, Events: slices.Concat(l, rounds(2000))}
			var n seen
			wantAll(leftAlone(t, s, all(nodes)), false, &n)
			if n.quorate != 1 {
				t.Errorf("P18.6: %d nodes, base %d: nothing was looked at", nodes, base)
			}
		}
	}
}

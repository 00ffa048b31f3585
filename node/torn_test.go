package node_test

import (
	"math/rand"
	"slices"
	"testing"

	"quorate/api"
	"quorate/journal"
	"quorate/node"
	"quorate/wire"
)

// tears are the numbers of units behind which writes are looked at: all of them, if they are few; else those at the writes' ends and some others.
func tears(r *rand.Rand, ws []api.Write) []int {
	var l []int
	cost := journal.Cost(ws)
	if cost <= 40 {
		for k := range cost + 1 {
			l = append(l, k)
		}
		return l
	}
	for i := range len(ws) + 1 {
		for d := -1; d <= 1; d++ {
			l = append(l, min(max(journal.Cost(ws[:i])+d, 0), cost))
		}
	}
	for range 10 {
		l = append(l, r.Intn(cost+1))
	}
	return l
}

// lastBase is the base that the last checkpoint of records tells.
func lastBase(l []api.Record) int {
	base := 0
	for _, x := range l {
		if x.Kind == api.RecState {
			_, at, _ := wire.TakeInt(x.Body, 0)
			_, at, _ = wire.TakeInt(x.Body, at)
			base, _, _ = wire.TakeInt(x.Body, at)
		}
	}
	return base
}

// wantTorn: P15.9, of a step with its writes on this disk.
func (n *net) wantTorn(x *twins, before api.Disk, o api.Output) {
	n.t.Helper()
	for _, k := range tears(n.r, o.Write) {
		d := journal.Apply(before, o.Write, k)
		again, told, e := node.New(x.c, x.pid, x.inc+1, d)
		if e == api.ErrSpent {
			continue
		}
		if e != api.OK {
			n.t.Fatalf("P15.9: behind %d units of %d New answers the error %d", k, journal.Cost(o.Write), e)
		}
		r := replicaOf(n.t, x.c, x.pid, x.inc+1, d)
		stands := standingOf(r)
		if again.Status() != r.Status() || again.Status().Base != stands.base || again.Status().Length != stands.length {
			n.t.Fatalf("P15.9: behind %d units the status is %+v, want %+v", k, again.Status(), r.Status())
		}
		at := slices.IndexFunc(x.m.stood, func(s standing) bool { return sameStanding(s, stands) })
		if at < 0 || k == journal.Cost(o.Write) && !sameStanding(stands, x.m.stood[len(x.m.stood)-1]) {
			n.t.Fatalf("P15.9: behind %d units of %d it stands at %+v, want one of %+v", k, journal.Cost(o.Write), stands, x.m.stood)
		}
		n.seen["tears"]++
		if at > 0 && at < len(x.m.stood)-1 {
			n.seen["tears between records"]++
		}
		n.wantRetold(k, d, told.Marks, stands.base, o.Marks)
	}
}

// wantRetold: P15.9: New tells just the entries from the last checkpoint's base on; so those of the torn step that the disk has done.
func (n *net) wantRetold(k int, d api.Disk, retold []api.Mark, base int, step []api.Mark) {
	n.t.Helper()
	_, l, _, _ := journal.Open(d)
	first := lastBase(l)
	if len(retold) != 1+base-first || retold[0].Kind != api.MarkBoot {
		n.t.Fatalf("P15.9: behind %d units New tells %s, want the entries %d to %d", k, lines(n.t, retold), first+1, base)
	}
	for i, m := range retold[1:] {
		if m.Kind != api.MarkApply || m.N != first+1+i {
			n.t.Fatalf("P15.9: behind %d units New tells %s, want the entries %d to %d", k, lines(n.t, retold), first+1, base)
		}
	}
	for _, m := range step {
		if m.Kind != api.MarkApply || m.N > base {
			continue
		}
		if m.N <= first || retold[m.N-first].Cmd != m.Cmd || retold[m.N-first].Result != m.Result {
			n.t.Fatalf("P15.9: behind %d units the entry %d was done, and New does not tell it", k, m.N)
		}
		n.seen["entries told after all"]++
	}
}

// TestTornSteps: P15.9: in stories of all kinds.
func TestTornSteps(t *testing.T) {
	seen := map[string]int{}
	for seed := range 60 {
		r := rand.New(rand.NewSource(int64(100 + seed)))
		c := drawnConfig(r)
		n := netOf(t, r, c, drawnDisks(r, c.Nodes), seen)
		n.tears = true
		n.begin()
		n.live(12)
	}
	for what, least := range map[string]int{"tears": 8000, "tears between records": 500, "entries told after all": 200, "torn": 60} {
		if seen[what] < least {
			t.Errorf("%d %s: the test is too weak", seen[what], what)
		}
	}
}

// TestTornAlone: P15.9, at all units of each step of a node on its own, with a journal that gets long on the way.
func TestTornAlone(t *testing.T) {
	n := netOf(t, rand.New(rand.NewSource(1)), config(1), []api.Disk{sized(4, 16200)}, map[string]int{})
	n.tears = true
	n.begin()
	compacted := 0
	for k := range 40 {
		in := []api.Input{tick, do(api.OpAdd, "n", "1"), tick}[k%3]
		before := n.at[0].disk
		o := n.step(0, in)
		base := n.at[0].m.stood[0].base
		for u := range journal.Cost(o.Write) + 1 {
			again, _, e := node.New(n.c, 0, 2, journal.Apply(before, o.Write, u))
			if e != api.OK || again.Status().Base < base || again.Status().Base > n.at[0].n.Status().Base {
				t.Fatalf("P15.9: step %d behind %d units: error %d", k, u, e)
			}
		}
		if len(o.Write) > 0 {
			n.wantTorn(n.at[0], before, o)
			if o.Write[0].Start {
				compacted++
			}
		}
	}
	if compacted != 1 || n.at[0].n.Status().Base < 12 {
		t.Errorf("the journal was begun anew %d times, %d entries were done: the test is too weak", compacted, n.at[0].n.Status().Base)
	}
}

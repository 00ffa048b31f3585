package node_test

import (
	"math/rand"
	"slices"
	"testing"

	"quorate/api"
	"quorate/machine"
)

// request names a command.
type request struct{ client, inc, req int }

func requestOf(c api.Command) request { return request{c.Client, c.Inc, c.Req} }

// deed is what was done at an index, in a view of which epoch first.
type deed struct {
	command api.Command
	result  api.Result
	epoch   int
}

// life is what the marks of an incarnation tell.
type life struct {
	epoch int // of its view
	base  int // how many entries it has done, or adopted as done; -1: not known yet
	asked map[request]int
}

// watcher holds all marks of a run against P9.
type watcher struct {
	t        testing.TB
	machine  *machine.Machine // does the entries in their one order
	deeds    []deed
	at       map[request]int // the index at which a command was done
	lives    map[[2]int]*life
	answered map[request]api.Result
}

func watching(t testing.TB) *watcher {
	return &watcher{t: t, machine: machine.New(), at: map[request]int{}, lives: map[[2]int]*life{}, answered: map[request]api.Result{}}
}

func (w *watcher) take(m api.Mark) {
	w.t.Helper()
	who := [2]int{m.Node, m.Inc}
	l := w.lives[who]
	if (l == nil) != (m.Kind == api.MarkBoot) {
		w.t.Fatalf("P15.1: %d/%d tells %+v, begun %v", m.Node, m.Inc, m, l != nil)
	}
	switch m.Kind {
	case api.MarkBoot:
		w.lives[who] = &life{base: -1, asked: map[request]int{}}
		if old := w.lives[[2]int{m.Node, m.Inc - 1}]; old != nil {
			w.lives[who].epoch = old.epoch
		}
	case api.MarkInstall:
		l.epoch = m.ID.Epoch
	case api.MarkAdopt:
		w.adopt(l, m)
	case api.MarkDo:
		l.asked[requestOf(m.Cmd)]++
	case api.MarkApply:
		w.apply(l, m)
	case api.MarkReply:
		w.reply(l, m)
	case api.MarkHalt, api.MarkCrash:
		w.t.Fatalf("P15: %+v", m)
	}
}

// adopt: nothing is missing of what was done in views of lower epochs.
func (w *watcher) adopt(l *life, m api.Mark) {
	w.t.Helper()
	for i, d := range w.deeds {
		if d.epoch < m.ID.Epoch && i+1 > m.N {
			w.t.Fatalf("P9: %d/%d adopts a log of %d entries in the epoch %d; entry %d was done in the epoch %d", m.Node, m.Inc, m.N, m.ID.Epoch, i+1, d.epoch)
		}
	}
	if m.Pos > len(w.deeds) {
		w.t.Fatalf("P9: %d/%d adopts the base %d, but %d entries were done", m.Node, m.Inc, m.Pos, len(w.deeds))
	}
	l.base = m.Pos
}

// apply: one command an index, one index a command, with the result that it has in the one order.
func (w *watcher) apply(l *life, m api.Mark) {
	w.t.Helper()
	if l.base >= 0 && m.N != l.base+1 {
		w.t.Fatalf("P9: %d/%d does the entry %d behind %d", m.Node, m.Inc, m.N, l.base)
	}
	l.base = m.N
	if m.N == len(w.deeds)+1 {
		w.deeds = append(w.deeds, deed{m.Cmd, w.machine.Apply(m.Cmd), l.epoch})
		if at := w.at[requestOf(m.Cmd)]; at > 0 {
			w.t.Fatalf("P10: the command %+v is done at %d and at %d", m.Cmd, at, m.N)
		}
		w.at[requestOf(m.Cmd)] = m.N
	}
	if m.N > len(w.deeds) || w.deeds[m.N-1].command != m.Cmd || w.deeds[m.N-1].result != m.Result {
		w.t.Fatalf("P9: %d/%d does %+v with %+v as entry %d of %d", m.Node, m.Inc, m.Cmd, m.Result, m.N, len(w.deeds))
	}
}

// reply: what was asked here, was done, and was not answered yet.
func (w *watcher) reply(l *life, m api.Mark) {
	w.t.Helper()
	r := requestOf(m.Cmd)
	at := w.at[r]
	if l.asked[r] != 1 || at == 0 || w.deeds[at-1].command != m.Cmd || w.deeds[at-1].result != m.Result {
		w.t.Fatalf("P9: %d/%d answers %+v with %+v; asked %d times, done at %d", m.Node, m.Inc, m.Cmd, m.Result, l.asked[r], at)
	}
	if _, was := w.answered[r]; was {
		w.t.Fatalf("P9: %d/%d answers %+v twice", m.Node, m.Inc, m.Cmd)
	}
	w.answered[r] = m.Result
}

// bounds are the numbers of chapter 18, for a greatest delay.
func bounds(c api.Config, delay int) (settle, deliver, answer int) {
	settle = c.Cap + 8*delay + 16
	deliver = ((api.MaxQueue+c.Window-1)/c.Window + 4) * (4*delay + 8)
	return settle, deliver, settle + 2*deliver
}

// calm: all nodes are up and new to nobody's leaving, all paths are open, with delays up to the one that is answered.
func (n *net) calm() int {
	n.t.Helper()
	for p := range n.at {
		if n.at[p] != nil && n.left[p] {
			n.crash(p)
		}
		if n.at[p] == nil {
			n.restart(p)
		}
	}
	n.ether.Do(api.Event{Kind: api.EvSplit, Sides: make([]int, n.c.Nodes)})
	greatest := 1
	for p := range n.c.Nodes {
		for q := range n.c.Nodes {
			d := 1 + n.r.Intn(n.c.Base)
			if n.ether.Do(api.Event{Kind: api.EvDelay, A: p, B: q, N: d}) == api.OK {
				greatest = max(greatest, d)
			}
		}
	}
	return greatest
}

// wantTogether: P7: one view of all nodes.
func (n *net) wantTogether() api.ViewID {
	n.t.Helper()
	for p, x := range n.at {
		v := x.n.View()
		if len(v.Members) != n.c.Nodes || v.ID != n.at[0].n.View().ID || x.m.group.Blocked() {
			n.t.Fatalf("P7: node %d is in %+v", p, v)
		}
	}
	return n.at[0].n.View().ID
}

// isIdle tells whether nothing is under way but beats.
func (n *net) isIdle() bool {
	for _, x := range n.at {
		if x.m.group.Queue() > 0 || x.n.Status().Pending > 0 {
			return false
		}
	}
	return true
}

// wantCalm: P7, P8 and P11.
func (n *net) wantCalm() {
	n.t.Helper()
	settle, deliver, answer := bounds(n.c, n.calm())
	for range settle {
		n.round(n.ask)
	}
	id := n.wantTogether()
	begun, from := n.ether.Clock(), len(n.told)
	for range 60 {
		n.round(n.ask)
	}
	for k := 0; k < answer && !n.isIdle(); k++ {
		n.round(func(int) {})
	}
	for range 30 {
		n.round(func(int) {})
	}
	if n.wantTogether() != id {
		n.t.Fatalf("P7: the view %v was left", id)
	}
	n.wantDelivered(id, deliver, begun)
	n.wantAnswered(answer, begun)
	for _, m := range n.told[from:] {
		if m.Kind == api.MarkBlock || m.Kind == api.MarkInstall || m.Kind == api.MarkRefuse && m.Err == api.ErrBlocked {
			n.t.Fatalf("P7 and P8: in a settled view: %+v", m)
		}
	}
	for p, x := range n.at {
		if s := x.n.Status(); s.Mode != api.ModeActive || s.Base != n.at[0].n.Status().Base || s.Pending > 0 {
			n.t.Fatalf("P11: the status of node %d is %+v", p, s)
		}
		if o := n.step(p, send("again")); o.Err != api.OK {
			n.t.Fatalf("P8: node %d takes nothing: error %d", p, o.Err)
		}
	}
}

// wantDelivered: P8: what was accepted in the view is delivered by all, in time.
func (n *net) wantDelivered(id api.ViewID, deliver, begun int) {
	n.t.Helper()
	type blob struct{ at, sender, seq int }
	when := map[blob]int{}
	for _, m := range n.told {
		if m.Kind == api.MarkDeliver && m.ID == id {
			when[blob{m.Node, m.Sender, m.Seq}] = m.At
		}
	}
	for _, m := range n.told {
		if m.Kind != api.MarkSend || m.ID != id {
			continue
		}
		for p := range n.c.Nodes {
			at, is := when[blob{p, m.Node, m.Seq}]
			if !is || at > max(m.At, begun)+deliver {
				n.t.Fatalf("P8: what node %d sent in round %d is delivered by %d: %v, in round %d", m.Node, m.At, p, is, at)
			}
			n.seen["longest delivery"] = max(n.seen["longest delivery"], at-max(m.At, begun))
		}
	}
}

// wantAnswered: P11: what the present incarnations have taken is answered, in time.
func (n *net) wantAnswered(answer, begun int) {
	n.t.Helper()
	when := map[request]int{}
	for _, m := range n.told {
		if m.Kind == api.MarkReply {
			when[requestOf(m.Cmd)] = m.At
		}
	}
	for _, m := range n.told {
		if m.Kind != api.MarkDo || m.Inc != n.at[m.Node].inc {
			continue
		}
		at, is := when[requestOf(m.Cmd)]
		if !is || at > max(m.At, begun)+answer {
			n.t.Fatalf("P11: what node %d was asked in round %d is answered: %v, in round %d", m.Node, m.At, is, at)
		}
		n.seen["answered in time"]++
	}
}

// TestHolds: P9 in stories without altered packets, with crashes, torn writes, cuts and losses; P7, P8 and P11 when all is left alone then.
func TestHolds(t *testing.T) {
	seen := map[string]int{}
	for seed := range 60 {
		r := rand.New(rand.NewSource(int64(1000 + seed)))
		c := drawnConfig(r)
		n := netOf(t, r, c, drawnDisks(r, c.Nodes), seen)
		w := watching(t)
		n.watch = w.take
		n.begin()
		n.live(10)
		n.wantCalm()
		for p := range n.at { // and once more, out of what the disks hold
			n.crash(p)
		}
		n.wantCalm()
		if base := n.at[0].n.Status().Base; base != len(w.deeds) {
			t.Fatalf("P9: %d entries were done, the nodes have %d", len(w.deeds), base)
		}
		if got, want := replicaOf(t, c, 0, 99, n.disks[0]).Snapshot(), w.machine.Snapshot(); !slices.Equal(got, want) {
			t.Fatal("P9: the machine is another than the one order makes")
		}
	}
	for what, least := range map[string]int{"adopts": 800, "entries": 9000, "answers": 3000, "answered in time": 2000, "torn": 40, "crashed": 200, "boots": 300, "longest delivery": 8} {
		if seen[what] < least {
			t.Errorf("%d %s: the test is too weak", seen[what], what)
		}
	}
}

// TestQuorum: P9 and P11: of three nodes the two that are together go on; the third takes nothing, and learns all when it is back.
func TestQuorum(t *testing.T) {
	n := netOf(t, rand.New(rand.NewSource(1)), with(config(3), func(c *api.Config) { c.Room = 5000 }), make([]api.Disk, 3), map[string]int{})
	w := watching(t)
	n.watch = w.take
	n.begin()
	quiet := func(rounds int) {
		for range rounds {
			n.round(func(int) {})
		}
	}
	quiet(40)
	n.ether.Do(api.Event{Kind: api.EvSplit, Sides: []int{0, 0, 1}})
	quiet(40)
	if o := n.step(2, do(api.OpSet, "a", "lost")); o.Err != api.ErrIdle {
		t.Fatalf("P9: alone of three a command is answered with error %d", o.Err)
	}
	if o := n.step(1, do(api.OpSet, "a", "kept")); o.Err != api.OK {
		t.Fatalf("P11: two of three refuse a command: error %d", o.Err)
	}
	quiet(40)
	if len(w.answered) != 1 || n.at[2].n.Status().Base != 0 || n.at[0].n.Status().Base != 1 {
		t.Fatalf("P11: %d answers, %+v, %+v", len(w.answered), n.at[0].n.Status(), n.at[2].n.Status())
	}
	n.crash(0)
	n.ether.Do(api.Event{Kind: api.EvSplit, Sides: []int{0, 0, 0}})
	quiet(60)
	for p := 1; p < 3; p++ {
		if s := n.at[p].n.Status(); s.Base != 1 || s.Mode != api.ModeActive {
			t.Fatalf("P9: node %d has lost the answered command: %+v", p, s)
		}
	}
}

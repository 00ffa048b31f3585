package member_test

import (
	"math/rand"
	"slices"
	"testing"

	"quorate/api"
	"quorate/member"
)

// history is what one agent has shown so far, for P6.8.
type history struct {
	floor int
	last  api.Propose
	view  api.View
}

// look holds what an agent proposes against what it proposed before.
func (h *history) look(t *testing.T, p api.Propose) {
	t.Helper()
	if p.Cid < h.last.Cid || p.Rev < h.last.Rev {
		t.Fatalf("P6.8: Cid or Rev fell: %v behind %v", p, h.last)
	}
	if p.Rev == h.last.Rev && !sameProposal(p, h.last) {
		t.Fatalf("P6.8: two proposals with the same Rev: %v behind %v", p, h.last)
	}
	h.last = p
}

func cidOf(v api.View, pid, inc int) int {
	for _, m := range v.Members {
		if m.Pid == pid && m.Inc == inc {
			return m.Cid
		}
	}
	return 0
}

// install holds a view against those that the agent had before.
func (h *history) install(t *testing.T, v api.View, pid, inc int) {
	t.Helper()
	if v.ID.Epoch <= h.floor || v.ID.Epoch <= h.view.ID.Epoch {
		t.Fatalf("P6.8: the view %v behind %v, with the floor %d", v, h.view, h.floor)
	}
	if cidOf(v, pid, inc) <= cidOf(h.view, pid, inc) {
		t.Fatalf("P6.8: node %d, %d installs %v behind %v", pid, inc, v, h.view)
	}
	h.view = v
}

// TestOneAgent: P6.8, whatever is handed in.
func TestOneAgent(t *testing.T) {
	r := rand.New(rand.NewSource(8))
	views := 0
	for range 500 {
		nodes, self, inc, floor := wildArgs(r)
		a := made(t, nodes, self, inc, floor)
		h := history{floor: floor}
		for k := range 150 {
			h.look(t, a.Proposal())
			if got := wildCall(r, look(a), 1+k/2+r.Intn(6))(a); len(got.view.Members) > 0 {
				h.install(t, got.view, self, inc)
				views++
			}
		}
	}
	if views < 500 {
		t.Errorf("the calls are too tame: %d views", views)
	}
}

// install is that one agent made a view its own, and which it had before.
type install struct {
	by    *one
	view  api.View
	prev  api.ViewID
	trans []int
}

// one is an agent among others, with what the test knows of it.
type one struct {
	*member.Agent
	pid, inc int
	past     history
	known    []int // by node: the greatest incarnation of which it has taken a proposal
	told     []api.Propose
}

// many are agents that are handed one another's true proposals.
type many struct {
	nodes    int
	agents   []*one
	installs map[api.ViewID][]install
}

func newMany(t *testing.T, nodes int) *many {
	t.Helper()
	m := &many{nodes: nodes, installs: map[api.ViewID][]install{}}
	for pid := range nodes {
		m.add(t, pid, 0)
	}
	return m
}

// latest is the greatest incarnation of a node that there is.
func (m *many) latest(pid int) int {
	inc := 0
	for _, o := range m.agents {
		if o.pid == pid {
			inc = max(inc, o.inc)
		}
	}
	return inc
}

func (m *many) add(t *testing.T, pid, floor int) {
	t.Helper()
	inc := m.latest(pid) + 1
	o := &one{Agent: made(t, m.nodes, pid, inc, floor), pid: pid, inc: inc, known: make([]int, m.nodes)}
	o.past.floor = floor
	m.agents = append(m.agents, o)
	o.tell(t)
}

// tell notes what the agent proposes, so that it can come to others at any time.
func (o *one) tell(t *testing.T) {
	t.Helper()
	p := o.Proposal()
	o.past.look(t, p)
	if n := len(o.told); n == 0 || !sameProposal(p, o.told[n-1]) {
		o.told = append(o.told, p)
	}
}

func (o *one) estimate(t *testing.T, want []int) {
	t.Helper()
	if _, e := o.Estimate(want); e != api.OK {
		t.Fatalf("P6.2: Estimate(%v) at node %d, %d: error %d", want, o.pid, o.inc, e)
	}
	o.tell(t)
}

func (o *one) take(t *testing.T, from *one, p api.Propose) {
	t.Helper()
	_, e := o.Take(from.pid, from.inc, p)
	if e != api.OK && e != api.ErrOld && e != api.ErrStale {
		t.Fatalf("P6.3: a true proposal %v of node %d, %d: error %d", p, from.pid, from.inc, e)
	}
	if e == api.OK {
		o.known[from.pid] = max(o.known[from.pid], from.inc)
	}
	o.tell(t)
}

func (m *many) install(t *testing.T, o *one) bool {
	t.Helper()
	prev := o.View().ID
	v, trans, e := o.Install()
	if e != api.OK {
		return false
	}
	o.past.install(t, v, o.pid, o.inc)
	o.tell(t)
	m.installs[v.ID] = append(m.installs[v.ID], install{o, v, prev, trans})
	return true
}

// wishes are sets that nodes may be told of: a side of a split of the present incarnations, with now and then a past one.
func (m *many) wishes(r *rand.Rand) []int {
	l := make([]int, m.nodes)
	for pid := range l {
		if r.Intn(3) > 0 {
			l[pid] = m.latest(pid)
		}
		if l[pid] > 1 && r.Intn(12) == 0 {
			l[pid]--
		}
	}
	return l
}

// tellAll tells a set to those that are in it, or to most of them.
func (m *many) tellAll(t *testing.T, r *rand.Rand, want []int) {
	t.Helper()
	for _, o := range m.agents {
		if want[o.pid] == o.inc && r.Intn(8) > 0 {
			o.estimate(t, want)
		}
	}
}

// spread hands a proposal of one agent to most of the others: mostly the latest there is.
func (m *many) spread(t *testing.T, r *rand.Rand) {
	t.Helper()
	from := m.agents[r.Intn(len(m.agents))]
	p := from.told[len(from.told)-1]
	if r.Intn(6) == 0 {
		p = from.told[r.Intn(len(from.told))]
	}
	for _, k := range r.Perm(len(m.agents)) {
		if o := m.agents[k]; o.pid != from.pid && r.Intn(4) > 0 {
			o.take(t, from, p)
		}
	}
}

func (m *many) step(t *testing.T, r *rand.Rand) {
	t.Helper()
	switch k := r.Intn(200); {
	case k == 0 && len(m.agents) < 2*m.nodes:
		m.add(t, r.Intn(m.nodes), r.Intn(4))
	case k < 8:
		m.tellAll(t, r, m.wishes(r))
	case k < 80:
		m.install(t, m.agents[r.Intn(len(m.agents))])
	default:
		m.spread(t, r)
	}
}

// check holds all installs against P6.9, and tells how many views several have, and how many pairs came along together.
func (m *many) check(t *testing.T) (shared, together int) {
	t.Helper()
	for _, l := range m.installs {
		if len(l) > 1 {
			shared++
		}
		for _, x := range l {
			for _, y := range l {
				together += checkPair(t, x, y)
			}
		}
	}
	return shared, together
}

func checkPair(t *testing.T, x, y install) int {
	t.Helper()
	if !sameView(x.view, y.view) {
		t.Fatalf("P6.9: one ID, two views: %v, %v", x.view, y.view)
	}
	if cidOf(x.view, y.by.pid, y.by.inc) == 0 {
		t.Fatalf("P6.9: node %d, %d installs %v", y.by.pid, y.by.inc, y.view)
	}
	if x.by == y.by {
		return 0
	}
	with := slices.Contains(x.trans, y.by.pid)
	if with != slices.Contains(y.trans, x.by.pid) {
		t.Fatalf("P6.9: in %v the lists are %v of node %d, %v of node %d", x.view, x.trans, x.by.pid, y.trans, y.by.pid)
	}
	if with != (x.prev == y.prev && x.prev != none) {
		t.Fatalf("P6.9: in %v, from %v and %v, the lists are %v, %v", x.view, x.prev, y.prev, x.trans, y.trans)
	}
	if with {
		return 1
	}
	return 0
}

func TestWhateverComesOfIt(t *testing.T) {
	r := rand.New(rand.NewSource(9))
	shared, together := 0, 0
	for range 600 {
		m := newMany(t, 1+r.Intn(5))
		for range 400 + r.Intn(600) {
			m.step(t, r)
		}
		s, n := m.check(t)
		shared, together = shared+s, together+n
	}
	if shared < 1000 || together < 500 {
		t.Errorf("the pasts are too tame: %d views of several, %d pairs came along together", shared, together)
	}
}

// calmSet chooses agents for P6.10: one of a node at most, none of which knows of a later one of another's node; often those that one of them wants already.
func (m *many) calmSet(r *rand.Rand) []*one {
	var l []*one
	wanted := m.agents[r.Intn(len(m.agents))].Proposal().Set
	freely := r.Intn(2) == 0
	for _, k := range r.Perm(len(m.agents)) {
		o := m.agents[k]
		fits := wanted[o.pid] == o.inc || freely && r.Intn(4) > 0
		for _, x := range l {
			fits = fits && x.pid != o.pid && x.known[o.pid] <= o.inc && o.known[x.pid] <= x.inc
		}
		if fits {
			l = append(l, o)
		}
	}
	return l
}

// round hands each what every other one proposed at its beginning, and lets those install that can.
func (m *many) round(t *testing.T, r *rand.Rand, l []*one) {
	t.Helper()
	var props []api.Propose
	for _, o := range l {
		props = append(props, o.Proposal())
	}
	for _, o := range l {
		for _, k := range r.Perm(len(l)) {
			if l[k] != o {
				o.take(t, l[k], props[k])
			}
		}
	}
	for _, o := range l {
		m.install(t, o)
	}
}

// settle tells just those agents of one another, lets them go on for four rounds, and holds them against P6.10; the answer is the round in which the last one installed.
func (m *many) settle(t *testing.T, r *rand.Rand, l []*one) int {
	t.Helper()
	want := make([]int, m.nodes)
	for _, o := range l {
		want[o.pid] = o.inc
	}
	for _, k := range r.Perm(len(l)) {
		l[k].estimate(t, want)
	}
	last := 0
	for round := 1; round <= 4; round++ {
		before := looks(l)
		m.round(t, r, l)
		if !slices.EqualFunc(before, looks(l), func(a, b seen) bool { return sameView(a.view, b.view) }) {
			last = round
		}
	}
	for _, o := range l {
		v := o.View()
		got := make([]int, m.nodes)
		for _, x := range v.Members {
			got[x.Pid] = x.Inc
		}
		if o.Changing() || !slices.Equal(got, want) || !sameView(v, l[0].View()) {
			t.Fatalf("P6.10: behind four rounds node %d has %v, changing %v; node %d has %v; want the members %v", o.pid, v, o.Changing(), l[0].pid, l[0].View(), want)
		}
	}
	before := looks(l)
	for range 3 {
		m.round(t, r, l)
	}
	if !slices.EqualFunc(before, looks(l), sameSeen) {
		t.Fatalf("P6.10: further rounds changed something: %v, was %v", looks(l), before)
	}
	return last
}

// wobble lets some of them want to be alone for a while, so that the others find out by their proposals.
func wobble(t *testing.T, r *rand.Rand, l []*one) {
	t.Helper()
	for _, o := range l {
		if r.Intn(4) == 0 {
			alone := make([]int, len(o.known))
			alone[o.pid] = o.inc
			o.estimate(t, alone)
		}
	}
}

func looks(l []*one) []seen {
	var list []seen
	for _, o := range l {
		list = append(list, look(o.Agent))
	}
	return list
}

func TestCalm(t *testing.T) {
	r := rand.New(rand.NewSource(10))
	var behind [5]int
	for k := range 1200 {
		nodes := 1 + r.Intn(5)
		if k%100 == 0 {
			nodes = api.MaxNodes
		}
		m := newMany(t, nodes)
		for range r.Intn(500) {
			m.step(t, r)
		}
		l := m.calmSet(r)
		if len(l) == 0 {
			continue
		}
		behind[m.settle(t, r, l)]++
		wobble(t, r, l)
		behind[m.settle(t, r, l)]++
		behind[m.settle(t, r, l[:1+r.Intn(len(l))])]++
		m.check(t)
	}
	if behind[1] < 100 || behind[2] < 100 || behind[3] < 100 {
		t.Errorf("the pasts are too tame: settled behind so many rounds: %v", behind)
	}
}

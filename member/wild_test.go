package member_test

import (
	"math"
	"math/rand"
	"slices"
	"testing"

	"quorate/api"
)

// taken is a proposal that was taken, and from whom.
type taken struct {
	q, inc int
	p      api.Propose
}

// model does what the chapter says in its own words, on lists, and keeps all that was ever taken.
type model struct {
	nodes, self, inc int
	own              api.Propose
	view             api.View
	changing         bool
	past             []taken
}

func newModel(nodes, self, inc, floor int) *model {
	m := &model{nodes: nodes, self: self, inc: inc, changing: true}
	m.own = api.Propose{Set: make([]int, nodes), Vec: make([]int, nodes), Cid: floor + 1, Rev: 1, Top: floor}
	m.own.Set[self], m.own.Vec[self] = inc, floor+1
	return m
}

func (m *model) latest(q int) (taken, bool) {
	for _, x := range slices.Backward(m.past) {
		if x.q == q {
			return x, true
		}
	}
	return taken{}, false
}

func (m *model) isSet(l []int) bool {
	return len(l) == m.nodes && !slices.ContainsFunc(l, func(v int) bool { return v < 0 || v > api.MaxCount })
}

func isWhole(v api.ViewID, nodes int) bool {
	for _, c := range []int{v.Epoch, v.Inc, v.Cid} {
		if c < 1 || c > api.MaxCount {
			return false
		}
	}
	return v.Lead >= 0 && v.Lead < nodes
}

func (m *model) isValid(q, inc int, p api.Propose) bool {
	if !m.isSet(p.Set) || !m.isSet(p.Vec) || p.Set[q] != inc || p.Vec[q] != p.Cid {
		return false
	}
	for k := range p.Set {
		if p.Set[k] == 0 && p.Vec[k] != 0 {
			return false
		}
	}
	if p.Cid < 1 || p.Cid > api.MaxCount || p.Rev < 1 || p.Rev > api.MaxCount || p.Top < 0 || p.Top >= api.MaxCount {
		return false
	}
	return p.Prev == none || isWhole(p.Prev, m.nodes)
}

func (m *model) vec(want []int, cid int) []int {
	l := make([]int, m.nodes)
	for q := range l {
		x, any := m.latest(q)
		switch {
		case q == m.self:
			l[q] = cid
		case want[q] != 0 && any && x.inc == want[q] && slices.Equal(x.p.Set, want):
			l[q] = x.p.Cid
		}
	}
	return l
}

func (m *model) isSpent() bool {
	return m.own.Cid == api.MaxCount || m.own.Rev == api.MaxCount || m.view.ID.Epoch == api.MaxCount
}

func (m *model) begin(want []int) answer {
	if m.isSpent() {
		return answer{e: api.ErrSpent}
	}
	m.own.Cid, m.own.Rev = m.own.Cid+1, m.own.Rev+1
	m.own.Set = slices.Clone(want)
	if len(m.view.Members) > 0 {
		m.own.Top, m.own.Prev = m.view.ID.Epoch, m.view.ID
	}
	m.own.Vec = m.vec(want, m.own.Cid)
	m.changing = true
	return answer{begun: true}
}

func (m *model) estimate(want []int) answer {
	switch {
	case !m.isSet(want) || want[m.self] != m.inc:
		return answer{e: api.ErrSet}
	case slices.Equal(want, m.own.Set):
		return answer{}
	}
	return m.begin(want)
}

func (m *model) refuses(q, inc int, p api.Propose) api.Errno {
	if q < 0 || q >= m.nodes || q == m.self || inc < 1 || inc > api.MaxCount {
		return api.ErrArg
	}
	if !m.isValid(q, inc, p) {
		return api.ErrSet
	}
	x, any := m.latest(q)
	switch {
	case any && x.inc > inc:
		return api.ErrOld
	case any && x.inc == inc && x.p.Rev >= p.Rev:
		return api.ErrStale
	}
	return api.OK
}

func (m *model) take(q, inc int, p api.Propose) answer {
	if e := m.refuses(q, inc, p); e != api.OK {
		return answer{e: e}
	}
	before := m.past
	m.past = append(slices.Clone(before), taken{q, inc, p})
	if m.changing {
		if vec := m.vec(m.own.Set, m.own.Cid); !slices.Equal(vec, m.own.Vec) {
			m.own.Vec, m.own.Rev = vec, m.own.Rev+1
		}
		return answer{}
	}
	for _, x := range m.view.Members {
		if x.Pid == q && x.Inc == inc && p.Cid > x.Cid {
			got := m.begin(m.own.Set)
			if got.e != api.OK {
				m.past = before
			}
			return got
		}
	}
	return answer{}
}

func (m *model) agreed() (api.View, []int, bool) {
	if !m.changing {
		return api.View{}, nil, false
	}
	var v api.View
	var trans []int
	top := m.own.Top
	for q, inc := range m.own.Set {
		if inc == 0 {
			continue
		}
		x, _ := m.latest(q)
		if m.own.Vec[q] == 0 || q != m.self && !slices.Equal(x.p.Vec, m.own.Vec) {
			return api.View{}, nil, false
		}
		v.Members = append(v.Members, api.Member{Pid: q, Inc: inc, Cid: m.own.Vec[q]})
		if q != m.self && x.p.Top > top {
			top = x.p.Top
		}
		if q == m.self || m.own.Prev != none && m.own.Prev == x.p.Prev {
			trans = append(trans, q)
		}
	}
	v.ID = api.ViewID{Epoch: top + 1, Lead: v.Members[0].Pid, Inc: v.Members[0].Inc, Cid: v.Members[0].Cid}
	return v, trans, true
}

func (m *model) install() answer {
	v, trans, ok := m.agreed()
	if !ok {
		return answer{e: api.ErrApart}
	}
	m.view, m.changing = v, false
	return answer{view: v, trans: trans}
}

func (m *model) look() seen {
	s := seen{own: m.own, view: m.view, changing: m.changing}
	s.agreed, s.trans, s.ok = m.agreed()
	return s
}

// actor is what calls are made on: an agent, or the model of one.
type actor interface {
	Estimate(set []int) (bool, api.Errno)
	Take(q, inc int, p api.Propose) (bool, api.Errno)
	Install() (api.View, []int, api.Errno)
}

func (m *model) Estimate(set []int) (bool, api.Errno) {
	got := m.estimate(set)
	return got.begun, got.e
}

func (m *model) Take(q, inc int, p api.Propose) (bool, api.Errno) {
	got := m.take(q, inc, p)
	return got.begun, got.e
}

func (m *model) Install() (api.View, []int, api.Errno) {
	got := m.install()
	return got.view, got.trans, got.e
}

func wildNumber(r *rand.Rand, about int) int {
	if r.Intn(60) == 0 {
		return []int{math.MinInt, -1, 0, 1, api.MaxCount - 1, api.MaxCount, api.MaxCount + 1, math.MaxInt}[r.Intn(8)]
	}
	return about
}

// wildSet is a set near the own one; the node self is the one whose entry is seldom touched.
func wildSet(r *rand.Rand, own []int, self int) []int {
	l := slices.Clone(own)
	for range 1 + r.Intn(2) {
		if q := r.Intn(len(l)); q != self || r.Intn(20) == 0 {
			l[q] = wildNumber(r, r.Intn(3))
		}
	}
	if r.Intn(40) == 0 {
		l = append(l, 1)[r.Intn(3)%(len(l)+1):]
	}
	return l
}

// wildPropose is a proposal of q's that often fits what an agent tells.
func wildPropose(r *rand.Rand, s seen, q, rev int) (int, api.Propose) {
	inc := 1 + r.Intn(2)
	if in := 0 <= q && q < len(s.own.Set); in && s.own.Set[q] > 0 && r.Intn(8) > 0 {
		inc = s.own.Set[q]
	}
	p := api.Propose{Set: slices.Clone(s.own.Set), Cid: 1 + r.Intn(3), Rev: rev, Top: r.Intn(4), Vec: slices.Clone(s.own.Vec)}
	if r.Intn(3) == 0 {
		p.Prev = s.own.Prev
	}
	if r.Intn(30) == 0 {
		p.Prev = id(wildNumber(r, 1), wildNumber(r, 0), wildNumber(r, 1), wildNumber(r, 1))
	}
	if 0 <= q && q < len(p.Set) {
		if p.Vec[q] > 0 && r.Intn(2) == 0 {
			p.Cid = p.Vec[q]
		}
		p.Set[q], p.Vec[q] = inc, p.Cid
	}
	if r.Intn(15) == 0 {
		p.Set = wildSet(r, p.Set, q)
	}
	if r.Intn(15) == 0 {
		p.Vec = wildSet(r, p.Vec, q)
	}
	p.Cid, p.Rev, p.Top = wildNumber(r, p.Cid), wildNumber(r, p.Rev), wildNumber(r, p.Top)
	return wildNumber(r, inc), p
}

// selfOf is the node whose Vec entry is always the own Cid; there may be others, which does not matter here.
func selfOf(s seen) int { return slices.Index(s.own.Vec, s.own.Cid) }

// wildCall is one call that can be made on several, about what one of them tells.
func wildCall(r *rand.Rand, s seen, rev int) func(actor) answer {
	switch k := r.Intn(12); {
	case k == 0:
		want := wildSet(r, s.own.Set, selfOf(s))
		return func(a actor) answer {
			begun, e := a.Estimate(want)
			return answer{begun: begun, e: e}
		}
	case k < 3:
		return func(a actor) answer {
			v, trans, e := a.Install()
			return answer{e: e, view: v, trans: trans}
		}
	}
	q := wildNumber(r, r.Intn(len(s.own.Set)))
	inc, p := wildPropose(r, s, q, rev)
	return func(a actor) answer {
		begun, e := a.Take(q, inc, p)
		return answer{begun: begun, e: e}
	}
}

func wildArgs(r *rand.Rand) (nodes, self, inc, floor int) {
	nodes, inc, floor = 1+r.Intn(5), 1+r.Intn(2), r.Intn(3)
	if r.Intn(20) == 0 {
		nodes = api.MaxNodes
	}
	if r.Intn(20) == 0 {
		inc = api.MaxCount
	}
	if r.Intn(10) == 0 {
		floor = api.MaxCount - 1 - r.Intn(6)
	}
	return nodes, r.Intn(nodes), inc, floor
}

func TestWildCalls(t *testing.T) {
	r := rand.New(rand.NewSource(5))
	count := map[api.Errno]int{}
	together := 0
	for range 1200 {
		nodes, self, inc, floor := wildArgs(r)
		a, m := made(t, nodes, self, inc, floor), newModel(nodes, self, inc, floor)
		for k := range 150 {
			s := m.look()
			if got := look(a); !sameSeen(got, s) {
				t.Fatalf("P6.4 to P6.7: it tells %v, want %v", got, s)
			}
			do := wildCall(r, s, 1+k/2+r.Intn(6))
			got, want := do(a), do(m)
			if !sameAnswer(got, want) {
				t.Fatalf("P6.2, P6.3, P6.6: it answers %v, want %v; ahead of it %v", got, want, s)
			}
			count[got.e]++
			if len(got.trans) > 1 {
				together++
			}
		}
	}
	for _, e := range []api.Errno{api.OK, api.ErrArg, api.ErrSet, api.ErrOld, api.ErrStale, api.ErrSpent, api.ErrApart} {
		if count[e] < 100 {
			t.Errorf("the calls are too tame: error %d came %d times", e, count[e])
		}
	}
	if together < 100 {
		t.Errorf("the calls are too tame: %d views with others from the same view", together)
	}
}

package member_test

import (
	"math"
	"math/rand"
	"slices"
	"testing"

	"quorate/api"
	"quorate/member"
)

var none api.ViewID

func id(epoch, lead, inc, cid int) api.ViewID {
	return api.ViewID{Epoch: epoch, Lead: lead, Inc: inc, Cid: cid}
}

func set(l ...int) []int { return l }

// prop is a proposal as the chapter writes it: {Set; Cid, Rev; Top, Prev; Vec}.
func prop(set []int, cid, rev, top int, prev api.ViewID, vec ...int) api.Propose {
	return api.Propose{Set: set, Cid: cid, Rev: rev, Top: top, Prev: prev, Vec: vec}
}

// view is a view with its members as (pid, incarnation, cid), one behind the other.
func view(id api.ViewID, members ...int) api.View {
	v := api.View{ID: id}
	for k := 0; k < len(members); k += 3 {
		v.Members = append(v.Members, api.Member{Pid: members[k], Inc: members[k+1], Cid: members[k+2]})
	}
	return v
}

func made(t *testing.T, nodes, self, inc, floor int) *member.Agent {
	t.Helper()
	a, e := member.New(nodes, self, inc, floor)
	if a == nil || e != api.OK {
		t.Fatalf("P6.1: New(%d, %d, %d, %d): error %d, want an agent", nodes, self, inc, floor, e)
	}
	return a
}

func sameProposal(a, b api.Propose) bool {
	return slices.Equal(a.Set, b.Set) && slices.Equal(a.Vec, b.Vec) &&
		a.Cid == b.Cid && a.Rev == b.Rev && a.Top == b.Top && a.Prev == b.Prev
}

func sameView(a, b api.View) bool { return a.ID == b.ID && slices.Equal(a.Members, b.Members) }

func wantProposal(t *testing.T, a *member.Agent, want api.Propose) {
	t.Helper()
	if got := a.Proposal(); !sameProposal(got, want) {
		t.Fatalf("P6.4: Proposal = %v, want %v", got, want)
	}
}

func wantEstimate(t *testing.T, a *member.Agent, set []int, begun bool, want api.Errno) {
	t.Helper()
	if got, e := a.Estimate(set); got != begun || e != want {
		t.Fatalf("P6.2: Estimate(%v) = %v, error %d, want %v, error %d", set, got, e, begun, want)
	}
}

func wantTake(t *testing.T, a *member.Agent, q, inc int, p api.Propose, begun bool, want api.Errno) {
	t.Helper()
	if got, e := a.Take(q, inc, p); got != begun || e != want {
		t.Fatalf("P6.3: Take(%d, %d, %v) = %v, error %d, want %v, error %d", q, inc, p, got, e, begun, want)
	}
}

func wantAgreed(t *testing.T, a *member.Agent, want api.View, trans ...int) {
	t.Helper()
	if v, l, ok := a.Agreed(); !ok || !sameView(v, want) || !slices.Equal(l, trans) {
		t.Fatalf("P6.5: Agreed = %v, %v, %v, want %v, %v", v, l, ok, want, trans)
	}
}

// wantApart: neither call finds an agreement, and both answer nothing else.
func wantApart(t *testing.T, a *member.Agent) {
	t.Helper()
	if v, l, ok := a.Agreed(); ok || v.ID != none || len(v.Members) != 0 || len(l) != 0 {
		t.Fatalf("P6.5: Agreed = %v, %v, %v, want no agreement", v, l, ok)
	}
	if v, l, e := a.Install(); e != api.ErrApart || v.ID != none || len(v.Members) != 0 || len(l) != 0 {
		t.Fatalf("P6.6: Install = %v, %v, error %d, want ErrApart", v, l, e)
	}
}

func wantInstall(t *testing.T, a *member.Agent, want api.View, trans ...int) {
	t.Helper()
	if v, l, e := a.Install(); e != api.OK || !sameView(v, want) || !slices.Equal(l, trans) {
		t.Fatalf("P6.6: Install = %v, %v, error %d, want %v, %v", v, l, e, want, trans)
	}
	wantStand(t, a, want, false)
}

func wantStand(t *testing.T, a *member.Agent, want api.View, changing bool) {
	t.Helper()
	if v := a.View(); !sameView(v, want) || a.Changing() != changing {
		t.Fatalf("P6.7: View = %v, Changing %v, want %v, %v", v, a.Changing(), want, changing)
	}
}

// far are numbers that are no node's and no counter's, whatever the agent.
func far() []int { return []int{math.MinInt, -api.MaxCount, -1, api.MaxCount + 1, math.MaxInt} }

// seen is all that an agent tells without changing.
type seen struct {
	own          api.Propose
	agreed, view api.View
	trans        []int
	ok, changing bool
}

func look(a *member.Agent) seen {
	s := seen{own: a.Proposal(), view: a.View(), changing: a.Changing()}
	s.agreed, s.trans, s.ok = a.Agreed()
	return s
}

func sameSeen(a, b seen) bool {
	return sameProposal(a.own, b.own) && sameView(a.agreed, b.agreed) && sameView(a.view, b.view) &&
		slices.Equal(a.trans, b.trans) && a.ok == b.ok && a.changing == b.changing
}

// answer is what a call that does something answers.
type answer struct {
	begun bool
	e     api.Errno
	view  api.View
	trans []int
}

func sameAnswer(a, b answer) bool {
	return a.begun == b.begun && a.e == b.e && sameView(a.view, b.view) && slices.Equal(a.trans, b.trans)
}

// wantSame holds two agents against each other in all that can be found out: what is kept of others' proposals shows only in what later calls answer, so both go on alike for a while.
func wantSame(t *testing.T, what string, a, twin *member.Agent) {
	t.Helper()
	r := rand.New(rand.NewSource(1))
	for k := range 400 {
		got, want := look(a), look(twin)
		if !sameSeen(got, want) {
			t.Fatalf("%s: in step %d of looking it tells %v, want %v", what, k, got, want)
		}
		do := wildCall(r, want, 1+k/8+r.Intn(8))
		if got, want := do(a), do(twin); !sameAnswer(got, want) {
			t.Fatalf("%s: in step %d of looking it answers %v, want %v", what, k, got, want)
		}
	}
}

var busySet, busyView = []int{4, 0, 7, 5, 0}, view(id(9, 0, 4, 2), 0, 4, 2, 2, 7, 3, 3, 5, 6)

// inView is node 2 (incarnation 7) of five, in a view with the nodes 0 and 3; it has a proposal of node 4 too.
func inView(t *testing.T) *member.Agent {
	t.Helper()
	a := made(t, 5, 2, 7, 1)
	wantEstimate(t, a, busySet, true, api.OK)
	wantTake(t, a, 0, 4, prop(busySet, 2, 10, 8, id(8, 0, 4, 1), 2, 0, 3, 6, 0), false, api.OK)
	wantTake(t, a, 3, 5, prop(busySet, 6, 12, 0, none, 2, 0, 3, 6, 0), false, api.OK)
	wantTake(t, a, 4, 2, prop(set(4, 0, 0, 0, 2), 1, 9, 3, none, 0, 0, 0, 0, 1), false, api.OK)
	wantInstall(t, a, busyView, 2)
	return a
}

// atOdds is the same one later: node 0 has left the view, and node 3 still proposes as it did.
func atOdds(t *testing.T) *member.Agent {
	t.Helper()
	a := inView(t)
	wantTake(t, a, 0, 4, prop(busySet, 3, 11, 9, busyView.ID, 3, 0, 3, 6, 0), true, api.OK)
	return a
}

// atOne is the same one later still: all three agree again.
func atOne(t *testing.T) *member.Agent {
	t.Helper()
	a := atOdds(t)
	wantTake(t, a, 3, 5, prop(busySet, 7, 13, 9, busyView.ID, 3, 0, 4, 7, 0), false, api.OK)
	wantTake(t, a, 0, 4, prop(busySet, 3, 12, 9, busyView.ID, 3, 0, 4, 7, 0), false, api.OK)
	wantAgreed(t, a, view(id(10, 0, 4, 3), 0, 4, 3, 2, 7, 4, 3, 5, 7), 0, 2, 3)
	return a
}

// wantUnchanged lets agents do what must change nothing.
func wantUnchanged(t *testing.T, what string, do func(a *member.Agent)) {
	t.Helper()
	for _, make := range []func(*testing.T) *member.Agent{inView, atOdds, atOne} {
		a := make(t)
		do(a)
		wantSame(t, what, a, make(t))
	}
}

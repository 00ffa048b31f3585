package member_test

import (
	"math/rand"
	"runtime"
	"slices"
	"testing"

	"quorate/api"
	"quorate/member"
)

// scribble writes over a list, its spare room too.
func scribble[T any](l []T, with T) {
	l = l[:cap(l)]
	for i := range l {
		l[i] = with
	}
}

// withSpare is a list with room behind it that is not the callee's to write.
func withSpare(l []int) []int { return append(slices.Clone(l), 6, 6, 6)[:len(l)] }

func wantStays(t *testing.T, what string, l, want []int) {
	t.Helper()
	if !slices.Equal(l[:cap(l)][:len(want)+3], append(slices.Clone(want), 6, 6, 6)) {
		t.Errorf("rule 5: %s is %v now, was %v", what, l[:cap(l)], want)
	}
	scribble(l, 77)
}

// TestEstimateStays: a set that is handed in is neither changed nor kept, whatever the answer.
func TestEstimateStays(t *testing.T) {
	for _, l := range [][]int{busySet, {4, 1, 7, 5, 2}, {4, 0, 6, 5, 0}, {4, 0, 7}, {4, 0, 7, -5, 0}} {
		for _, make := range []func(*testing.T) *member.Agent{inView, atOdds, atOne} {
			a, twin := make(t), make(t)
			room := withSpare(l)
			begun, e := a.Estimate(room)
			wantStays(t, "a set that was handed in", room, l)
			wantEstimate(t, twin, l, begun, e)
			wantSame(t, "rule 5: writing into a set that was handed in", a, twin)
		}
	}
}

// TestTakeStays: the same of a proposal.
func TestTakeStays(t *testing.T) {
	for _, c := range []taken{
		{0, 4, good()}, {0, 5, prop(set(5, 0, 7, 5, 0), 9, 1, 0, none, 9, 0, 0, 0, 0)}, {0, 3, prop(set(3, 0, 7, 5, 0), 9, 1, 0, none, 9, 0, 0, 0, 0)},
		{3, 5, prop(busySet, 6, 14, 0, none, 3, 0, 4, 6, 0)}, {3, 5, prop(busySet, 6, 1, 0, none, 2, 0, 3, 6, 0)}, {3, 5, prop(busySet, 7, 14, 0, none, 2, 0, 3, 6, 0)},
		{1, 1, prop(set(4, 1, 7, 5, 0), 6, 1, 0, none, 2, 6, 3, 6, 0)}, {2, 7, good()},
	} {
		for _, make := range []func(*testing.T) *member.Agent{inView, atOdds, atOne} {
			a, twin := make(t), make(t)
			p := c.p
			p.Set, p.Vec = withSpare(c.p.Set), withSpare(c.p.Vec)
			begun, e := a.Take(c.q, c.inc, p)
			wantStays(t, "a Set that was handed in", p.Set, c.p.Set)
			wantStays(t, "a Vec that was handed in", p.Vec, c.p.Vec)
			wantTake(t, twin, c.q, c.inc, c.p, begun, e)
			wantSame(t, "rule 5: writing into a proposal that was handed in", a, twin)
		}
	}
}

// told are lists that an agent answered.
type told struct {
	ints    [][]int
	members [][]api.Member
}

func (l *told) view(v api.View, trans []int) {
	l.members, l.ints = append(l.members, v.Members), append(l.ints, trans)
}

// ask adds all lists that an agent tells, each once.
func (l *told) ask(a *member.Agent) {
	p := a.Proposal()
	l.ints = append(l.ints, p.Set, p.Vec)
	l.view(a.View(), nil)
	v, trans, _ := a.Agreed()
	l.view(v, trans)
}

func (l *told) copied() told {
	var own told
	for _, x := range l.ints {
		own.ints = append(own.ints, slices.Clone(x))
	}
	for _, x := range l.members {
		own.members = append(own.members, slices.Clone(x))
	}
	return own
}

func (l *told) same(o told) bool {
	return slices.EqualFunc(l.ints, o.ints, slices.Equal) && slices.EqualFunc(l.members, o.members, slices.Equal)
}

// scribble writes over one list behind the other, and looks whether another one changes with it.
func (l *told) scribble(t *testing.T) {
	t.Helper()
	want := l.copied()
	for k := range l.ints {
		scribble(l.ints[k], 77)
		scribble(want.ints[k], 77)
		if !l.same(want) {
			t.Fatal("rule 5: two answers share memory")
		}
	}
	for k := range l.members {
		scribble(l.members[k], api.Member{Pid: 7, Inc: 7, Cid: 7})
		scribble(want.members[k], api.Member{Pid: 7, Inc: 7, Cid: 7})
		if !l.same(want) {
			t.Fatal("rule 5: two answers share memory")
		}
	}
}

// TestAnswersAreNew: writing into an answer changes nothing that is kept.
func TestAnswersAreNew(t *testing.T) {
	wantUnchanged(t, "rule 5: writing into answers", func(a *member.Agent) {
		var l told
		l.ask(a)
		l.ask(a)
		l.scribble(t)
	})
	a, twin := atOne(t), atOne(t)
	v, trans, _ := a.Install()
	twin.Install()
	var l told
	l.view(v, trans)
	l.ask(a)
	l.scribble(t)
	wantSame(t, "rule 5: writing into what Install answered", a, twin)
}

// TestAnswersStay: no later call changes what was answered, and no two answers share memory.
func TestAnswersStay(t *testing.T) {
	r := rand.New(rand.NewSource(6))
	for range 60 {
		nodes, self, inc, floor := wildArgs(r)
		a := made(t, nodes, self, inc, floor)
		var l told
		for k := range 40 {
			got := wildCall(r, look(a), 1+k/2+r.Intn(6))(a)
			l.view(got.view, got.trans)
			l.ask(a)
		}
		asTold := l.copied()
		for k := range 60 {
			wildCall(r, look(a), 20+k/2+r.Intn(6))(a)
		}
		if !l.same(asTold) {
			t.Fatal("rule 5: an answer changed")
		}
		l.scribble(t)
	}
}

// TestTellingChangesNothing: rule 7.
func TestTellingChangesNothing(t *testing.T) {
	wantUnchanged(t, "rule 7: telling", func(a *member.Agent) {
		for range 3 {
			look(a)
		}
	})
}

// TestAgentsApart: what an agent answers hangs on the calls on it alone.
func TestAgentsApart(t *testing.T) {
	wantUnchanged(t, "rule 6: calls on another agent", func(*member.Agent) {
		other := atOne(t)
		other.Install()
		wantTake(t, other, 0, 4, prop(busySet, 8, 80, 0, none, 8, 0, 0, 0, 0), true, api.OK)
		wantEstimate(t, other, set(1, 1, 7, 1, 1), true, api.OK)
	})
}

func heapInUse() int {
	runtime.GC()
	var s runtime.MemStats
	runtime.ReadMemStats(&s)
	return int(s.HeapAlloc)
}

// TestKeepsLittle: changes and views that have gone by leave nothing behind (P12).
func TestKeepsLittle(t *testing.T) {
	a := made(t, 2, 0, 1, 0)
	before := heapInUse()
	const changes = 50000
	for k := 1; k <= changes; k++ {
		s := set(1, k)
		if begun, e := a.Estimate(s); !begun || e != api.OK {
			t.Fatalf("P6.2: Estimate: %v, error %d", begun, e)
		}
		if _, e := a.Take(1, k, prop(s, 1, 1, 0, none, a.Proposal().Cid, 1)); e != api.OK {
			t.Fatalf("P6.3: Take: error %d", e)
		}
		if _, _, e := a.Install(); e != api.OK {
			t.Fatalf("P6.6: Install: error %d", e)
		}
	}
	if grown := heapInUse() - before; grown > 1<<20 {
		t.Errorf("rule 8: behind %d changes %d bytes more are kept", changes, grown)
	}
	wantStand(t, a, view(id(changes, 0, 1, changes+1), 0, 1, changes+1, 1, changes, 1), false)
}

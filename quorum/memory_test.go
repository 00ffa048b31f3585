package quorum_test

import (
	"math/rand"
	"runtime"
	"slices"
	"testing"

	"quorate/api"
	"quorate/quorum"
)

// roomy is the same list with room behind it that is not the callee's to write.
func roomy[T any](l []T, with T) []T {
	wide := append(slices.Clone(l), with, with, with)
	return wide[:len(l)]
}

// full is a list with its spare room.
func full[T any](l []T) []T { return l[:cap(l)] }

// scribble writes over a list and its spare room.
func scribble[T any](l []T, with T) {
	for i := range full(l) {
		full(l)[i] = with
	}
}

// wantUntouched hands a call a list with spare room, and looks whether it changed.
func wantUntouched[T comparable](t *testing.T, what string, l []T, with T, call func(l []T)) {
	t.Helper()
	mine := roomy(l, with)
	before := slices.Clone(full(mine))
	call(mine)
	if !slices.Equal(full(mine), before) {
		t.Fatalf("rule 5: %s changed what it was handed: %v, it was %v", what, full(mine), before)
	}
}

// TestArgumentsStay: rule 5, what is handed in is not changed, be it taken or refused.
func TestArgumentsStay(t *testing.T) {
	r := rand.New(rand.NewSource(8))
	for range 200 {
		votes := randomVotes(r, 1+r.Intn(8))
		set := drawnSet(r, len(votes))
		if r.Intn(3) == 0 {
			votes[r.Intn(len(votes))] = 10
		}
		if r.Intn(3) == 0 {
			slices.Reverse(set)
		}
		wantUntouched(t, "Check", votes, 5, func(l []int) { quorum.Check(l) })
		wantUntouched(t, "Quorate", votes, 5, func(l []int) { quorum.Quorate(l, set) })
		wantUntouched(t, "Quorate", set, 5, func(l []int) { quorum.Quorate(votes, l) })
		wantUntouched(t, "Winning", votes, 5, func(l []int) { quorum.Winning(l) })
		wantUntouched(t, "Minimal", votes, 5, func(l []int) { quorum.Minimal(l) })
		wantUntouched(t, "Tolerance", votes, 5, func(l []int) { quorum.Tolerance(l) })
		wantUntouched(t, "New", votes, 5, func(l []int) { quorum.New(l) })

		var l []api.Standing
		for _, p := range r.Perm(api.MaxNodes)[:1+r.Intn(api.MaxNodes)] {
			l = append(l, api.Standing{Pid: p + r.Intn(20)/19, Epoch: r.Intn(3), Length: r.Intn(3)})
		}
		wantUntouched(t, "Best", l, api.Standing{Pid: 3}, func(l []api.Standing) { quorum.Best(l) })

		w, v := made(t, 1, 1, 1), wildView(r, 3, 1)
		wantUntouched(t, "Enter", v.Members, api.Member{Pid: 2, Inc: 1, Cid: 1}, func(l []api.Member) {
			w.Enter(api.View{ID: v.ID, Members: l})
			w.In()
			w.Last()
			w.Count()
		})
	}
}

// TestVotesAreCopied: Q8: a watch goes on with the votes that it was made with.
func TestVotesAreCopied(t *testing.T) {
	for _, votes := range smallVotes() {
		mine := roomy(votes, 4)
		w := made(t, mine...)
		for epoch, set := range setsOf(len(votes)) {
			scribble(mine, epoch%3)
			if len(set) > 0 {
				wantEntered(t, w, viewOf(1+epoch, set...), isQuorate(votes, set))
			}
		}
	}
}

// TestViewIsNotKept: Q9: what is written into a view that was entered changes nothing.
func TestViewIsNotKept(t *testing.T) {
	w := made(t, 1, 1, 1)
	v := viewOf(3, 0, 2)
	id := v.ID
	wantEntered(t, w, v, true)
	scribble(v.Members, api.Member{Pid: 1, Inc: 9, Cid: 9})
	v.ID = api.ViewID{Epoch: 100}
	wantTold(t, w, told{in: true, last: id, entered: 1, quorates: 1})
	last := w.Last()
	last.Epoch = 1
	wantTold(t, w, told{in: true, last: id, entered: 1, quorates: 1})
	wantEntered(t, w, viewOf(4, 1), false)
}

// TestMinimalApart: Q4: all lists are new memory, spare room too, and no two share any.
func TestMinimalApart(t *testing.T) {
	for _, votes := range append(smallVotes(), same(9, 1), same(10, 2)) {
		mine := roomy(votes, 4)
		l, _ := quorum.Minimal(mine)
		again, _ := quorum.Minimal(mine)
		want := minimal(votes)
		for k, set := range append(slices.Clone(l), again...) {
			scribble(set, 100+k)
		}
		for k, set := range append(slices.Clone(l), again...) {
			for _, n := range full(set) {
				if n != 100+k {
					t.Fatalf("Q4: of %v: two lists share memory", votes)
				}
			}
		}
		scribble(l, nil)
		if slices.ContainsFunc(again, func(set []int) bool { return set == nil }) {
			t.Fatalf("Q4: of %v: two answers share memory", votes)
		}
		if !slices.Equal(mine, votes) {
			t.Fatalf("Q4: Minimal's answer shares memory with %v", votes)
		}
		wantMinimal(t, votes, want...)
	}
}

// TestAppend: appending to one of Minimal's lists never runs into another.
func TestAppend(t *testing.T) {
	votes := same(7, 1)
	l, _ := quorum.Minimal(votes)
	for _, set := range l {
		for n := range 5 {
			_ = append(set, make([]int, n)...)
		}
	}
	if !slices.EqualFunc(l, minimal(votes), slices.Equal[[]int]) {
		t.Errorf("Q4: appending to a list changed another: %v", l)
	}
}

// TestOnlyItsOwnCalls: rules 6 and 7: other watches and calls change nothing, and asking neither.
func TestOnlyItsOwnCalls(t *testing.T) {
	w, other := made(t, 1, 1, 1), made(t, 1, 1, 1)
	for epoch := 1; epoch <= 30; epoch++ {
		other.Enter(viewOf(epoch+40, 0, 1, 2))
		made(t, 9, 9).Enter(viewOf(1, 1))
		wantWinning(t, []int{2, 2}, 2)
		before := ask(w)
		wantMinimal(t, []int{0, 3}, []int{1})
		wantTolerance(t, same(5, 1), 2)
		wantBest(t, standings(3), 0, api.OK)
		wantTold(t, w, before)
		wantEntered(t, w, viewOf(epoch, epoch%3), false)
		wantRefused(t, w, viewOf(epoch, 0, 1), api.ErrOrder)
	}
	wantTold(t, w, told{entered: 30})
}

func heapInUse() int {
	runtime.GC()
	var s runtime.MemStats
	runtime.ReadMemStats(&s)
	return int(s.HeapAlloc)
}

// TestKeepsLittle: rule 8: a watch keeps nothing of the views that are over, nor anything great that it was handed.
func TestKeepsLittle(t *testing.T) {
	var l []*quorum.Watch
	before := heapInUse()
	for range 40 {
		wide := make([]int, 1<<17)
		copy(wide, same(api.MaxNodes, 1))
		w := made(t, wide[:api.MaxNodes]...)
		for epoch := 1; epoch <= 1000; epoch++ {
			wantEntered(t, w, viewOf(epoch, othersOf(api.MaxNodes, nil)...), true)
		}
		v := viewOf(2000, 1, 2)
		v.Members = append(make([]api.Member, 0, 1<<16), v.Members...)
		wantEntered(t, w, v, false)
		l = append(l, w)
	}
	if grown := heapInUse() - before; grown > 1<<20 {
		t.Errorf("rule 8: watches keep %d bytes", grown)
	}
	runtime.KeepAlive(l)
}

package quorum_test

import (
	"math/rand"
	"slices"
	"testing"

	"quorate/api"
	"quorate/quorum"
)

// wantNoVotes: every call that takes votes refuses these, whatever else it is given.
func wantNoVotes(t *testing.T, votes []int) {
	t.Helper()
	if e := quorum.Check(votes); e != api.ErrVotes {
		t.Fatalf("Q1: Check(%v): error %d, want ErrVotes", votes, e)
	}
	for _, set := range [][]int{nil, {}, {0}, {1, 0}, {0, 0}, {-1}, {16}, {0, 1}} {
		wantQuorate(t, votes, set, false, api.ErrVotes)
	}
	if n, e := quorum.Winning(votes); n != 0 || e != api.ErrVotes {
		t.Fatalf("Q3: Winning(%v) = %d, error %d, want 0, ErrVotes", votes, n, e)
	}
	if l, e := quorum.Minimal(votes); l != nil || e != api.ErrVotes {
		t.Fatalf("Q4: Minimal(%v) = %v, error %d, want nil, ErrVotes", votes, l, e)
	}
	if n, e := quorum.Tolerance(votes); n != 0 || e != api.ErrVotes {
		t.Fatalf("Q5: Tolerance(%v) = %d, error %d, want 0, ErrVotes", votes, n, e)
	}
	if w, e := quorum.New(votes); w != nil || e != api.ErrVotes {
		t.Fatalf("Q8: New(%v) = %v, error %d, want nil, ErrVotes", votes, w, e)
	}
}

// wantVotes: every call takes these.
func wantVotes(t *testing.T, votes []int) {
	t.Helper()
	if e := quorum.Check(votes); e != api.OK {
		t.Fatalf("Q1: Check(%v): error %d, want OK", votes, e)
	}
	wantQuorate(t, votes, nil, false, api.OK)
	wantQuorate(t, votes, othersOf(len(votes), nil), true, api.OK)
	wantTold(t, made(t, votes...), told{})
}

// TestHowMany: Q1: 1 to 16 entries.
func TestHowMany(t *testing.T) {
	wantNoVotes(t, nil)
	for nodes := range 40 {
		for _, vote := range []int{1, 9} {
			if nodes >= 1 && nodes <= 16 {
				wantVotes(t, same(nodes, vote))
			} else {
				wantNoVotes(t, same(nodes, vote))
			}
		}
		wantNoVotes(t, same(nodes, 0))
	}
	wantNoVotes(t, make([]int, 100000))
	wantNoVotes(t, same(100000, 9))
}

// TestHowGreat: Q1: each from 0 to 9, at every place; and not all of them 0.
func TestHowGreat(t *testing.T) {
	for nodes := 1; nodes <= api.MaxNodes; nodes++ {
		for at := range nodes {
			for vote := range 10 {
				votes := same(nodes, 1)
				votes[at] = vote
				lone := make([]int, nodes)
				lone[at] = vote
				if vote > 0 {
					wantVotes(t, lone)
				}
				if nodes > 1 || vote > 0 {
					wantVotes(t, votes)
				}
			}
			for _, vote := range append(far(), 10, 11, 12, -9, -10) {
				for _, rest := range []int{0, 1, 9} {
					votes := same(nodes, rest)
					votes[at] = vote
					wantNoVotes(t, votes)
				}
			}
		}
	}
	wantNoVotes(t, []int{5, -5})
	wantNoVotes(t, []int{-1, 2})
	wantNoVotes(t, []int{9, 9, 10, 0})
}

// TestNoSet: Q2: which lists are no sets, with the wrong entry at every place.
func TestNoSet(t *testing.T) {
	for nodes := 1; nodes <= api.MaxNodes; nodes++ {
		votes, all := same(nodes, 1), othersOf(nodes, nil)
		for at := range nodes {
			wantQuorate(t, votes, slices.Insert(slices.Clone(all), at, at), false, api.ErrArg) // twice
			for _, p := range append(far(), nodes) {
				wrong := slices.Clone(all)
				wrong[at] = p
				wantQuorate(t, votes, wrong, false, api.ErrArg)
				wantQuorate(t, votes, []int{p}, false, api.ErrArg)
				wantQuorate(t, votes, append(all[:at:at], p), false, api.ErrArg)
			}
			for other := range at {
				swapped := slices.Clone(all)
				swapped[at], swapped[other] = other, at
				wantQuorate(t, votes, swapped, false, api.ErrArg)
				wantQuorate(t, votes, []int{at, other}, false, api.ErrArg)
			}
		}
		wantQuorate(t, votes, append(slices.Clone(all), nodes), false, api.ErrArg)
		wantQuorate(t, votes, append(slices.Clone(all), 0), false, api.ErrArg)
		wantQuorate(t, votes, make([]int, 100000), false, api.ErrArg)
	}
}

// TestQuorate: Q2, over all sets of small groups, and drawn lists of greater ones.
func TestQuorate(t *testing.T) {
	for _, votes := range smallVotes() {
		for _, set := range setsOf(len(votes)) {
			wantQuorate(t, votes, set, isQuorate(votes, set), api.OK)
		}
	}
	r := rand.New(rand.NewSource(1))
	var seen [3]int // no set, quorate, not quorate
	for range 100000 {
		nodes := 1 + r.Intn(api.MaxNodes)
		votes := randomVotes(r, nodes)
		var set []int
		for p := range nodes {
			if r.Intn(2) == 0 {
				set = append(set, p)
			}
		}
		if len(set) > 0 && r.Intn(3) == 0 {
			set[r.Intn(len(set))] = r.Intn(nodes+3) - 1
		}
		if !isSet(votes, set) {
			wantQuorate(t, votes, set, false, api.ErrArg)
			seen[0]++
			continue
		}
		ok := isQuorate(votes, set)
		wantQuorate(t, votes, set, ok, api.OK)
		if ok {
			seen[1]++
		} else {
			seen[2]++
		}
	}
	for k, n := range seen {
		if n < 10000 {
			t.Errorf("the test is too weak: %d answers of kind %d", n, k)
		}
	}
}

// TestHalves: 11.1: with just half of the votes it is the first voter that counts, be it node 0 or not, be its votes few or many.
func TestHalves(t *testing.T) {
	for nodes := 2; nodes <= api.MaxNodes; nodes++ {
		for first := range nodes - 1 {
			for other := first + 1; other < nodes; other++ {
				for vote := 1; vote <= api.MaxVotes; vote++ {
					votes := make([]int, nodes)
					votes[first], votes[other] = vote, vote
					wantQuorate(t, votes, []int{first}, true, api.OK)
					wantQuorate(t, votes, []int{other}, false, api.OK)
					wantQuorate(t, votes, othersOf(nodes, []int{first}), false, api.OK)
					wantQuorate(t, votes, othersOf(nodes, []int{other}), true, api.OK)
				}
			}
		}
	}
	wantQuorate(t, []int{0, 1, 3, 4}, []int{1, 2}, true, api.OK)
	wantQuorate(t, []int{0, 1, 3, 4}, []int{0, 3}, false, api.OK)
	wantQuorate(t, []int{0, 1, 3, 4}, []int{1, 3}, true, api.OK)
}

package quorum_test

import (
	"math/rand"
	"slices"
	"testing"

	"quorate/api"
	"quorate/quorum"
)

// asked is what Quorate tells of a set.
func asked(t *testing.T, votes, set []int) bool {
	t.Helper()
	ok, e := quorum.Quorate(votes, set)
	if e != api.OK {
		t.Fatalf("Q2: Quorate(%v, %v): error %d", votes, set, e)
	}
	return ok
}

func haveOneInCommon(a, b []int) bool {
	return slices.ContainsFunc(a, func(p int) bool { return slices.Contains(b, p) })
}

// holds tells whether a has all of b.
func holds(a, b []int) bool {
	return !slices.ContainsFunc(b, func(p int) bool { return !slices.Contains(a, p) })
}

// TestShareANode: Q6: two quorate sets share a node; what holds a quorate set is quorate.
func TestShareANode(t *testing.T) {
	for _, votes := range smallVotes() {
		if len(votes) > 6 {
			continue
		}
		sets := setsOf(len(votes))
		for _, a := range sets {
			if !asked(t, votes, a) {
				continue
			}
			for _, b := range sets {
				ok := asked(t, votes, b)
				if ok && !haveOneInCommon(a, b) {
					t.Fatalf("Q6: of %v both %v and %v are quorate", votes, a, b)
				}
				if !ok && holds(b, a) {
					t.Fatalf("Q6: of %v %v is quorate, %v is not", votes, a, b)
				}
			}
		}
	}
}

// TestJustOne: Q6: of a set and all others just one is quorate, and so just half of all sets.
func TestJustOne(t *testing.T) {
	r := rand.New(rand.NewSource(4))
	for _, votes := range append(smallVotes(), someVotes(r)...) {
		if n, _ := quorum.Winning(votes); 2*n != 1<<len(votes) {
			t.Fatalf("Q6: Winning(%v) = %d", votes, n)
		}
		if len(votes) > 10 {
			continue
		}
		for _, set := range setsOf(len(votes)) {
			others := othersOf(len(votes), set)
			if asked(t, votes, set) == asked(t, votes, others) {
				t.Fatalf("Q6: of %v %v and %v are alike", votes, set, others)
			}
		}
	}
}

// TestHoldsAMinimal: Q6: a set is quorate just if it holds one of Minimal.
func TestHoldsAMinimal(t *testing.T) {
	r := rand.New(rand.NewSource(5))
	for _, votes := range append(smallVotes(), someVotes(r)...) {
		if len(votes) > 9 {
			continue
		}
		l, _ := quorum.Minimal(votes)
		for _, set := range setsOf(len(votes)) {
			has := slices.ContainsFunc(l, func(least []int) bool { return holds(set, least) })
			if asked(t, votes, set) != has {
				t.Fatalf("Q6: of %v with Minimal %v: %v is quorate: %v", votes, l, set, !has)
			}
		}
	}
}

// TestToleranceOfMinimal: Q5 and Q6: one node less than the smallest of Minimal may be gone.
func TestToleranceOfMinimal(t *testing.T) {
	r := rand.New(rand.NewSource(6))
	for _, votes := range append(smallVotes(), someVotes(r)...) {
		l, _ := quorum.Minimal(votes)
		fewest := len(votes)
		for _, set := range l {
			fewest = min(fewest, len(set))
		}
		wantTolerance(t, votes, fewest-1)
	}
}

// TestWatchesMeet: Q11: the quorate views of two watches have a node in common, whatever each of them enters.
func TestWatchesMeet(t *testing.T) {
	r := rand.New(rand.NewSource(7))
	pairs := 0
	for range 300 {
		votes := randomVotes(r, 1+r.Intn(api.MaxNodes))
		var quorates [2][][]int
		for k := range quorates {
			w := made(t, votes...)
			for epoch := range 40 {
				set := drawnSet(r, len(votes))
				ok, e := w.Enter(viewOf(1+epoch, set...))
				if e != api.OK {
					t.Fatalf("Q9: error %d", e)
				}
				if ok {
					quorates[k] = append(quorates[k], set)
				}
			}
		}
		for _, a := range quorates[0] {
			for _, b := range quorates[1] {
				pairs++
				if !haveOneInCommon(a, b) {
					t.Fatalf("Q11: of %v both %v and %v are quorate", votes, a, b)
				}
			}
		}
	}
	if pairs < 10000 {
		t.Errorf("the test is too weak: %d pairs", pairs)
	}
}

// drawnSet is one that has at least one node.
func drawnSet(r *rand.Rand, nodes int) []int {
	set := r.Perm(nodes)[:1+r.Intn(nodes)]
	slices.Sort(set)
	return set
}

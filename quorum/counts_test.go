package quorum_test

import (
	"math/rand"
	"slices"
	"testing"

	"quorate/api"
)

// wantCounts holds Q3 to Q5 against their own words.
func wantCounts(t *testing.T, votes []int) {
	t.Helper()
	wantWinning(t, votes, winning(votes))
	wantMinimal(t, votes, minimal(votes)...)
	wantTolerance(t, votes, tolerance(votes))
}

// TestCountsOfFew: Q3 to Q5, all votes of few nodes.
func TestCountsOfFew(t *testing.T) {
	for _, votes := range smallVotes() {
		wantCounts(t, votes)
	}
}

// TestCountsOfMany: Q3 to Q5, drawn votes.
func TestCountsOfMany(t *testing.T) {
	r := rand.New(rand.NewSource(2))
	bears := map[int]int{}
	for _, votes := range someVotes(r) {
		wantCounts(t, votes)
		bears[tolerance(votes)]++
	}
	if len(bears) < 6 {
		t.Errorf("the test is too weak: %v", bears)
	}
}

// TestCountsOfAlike: Q3 to Q5, of nodes that all have the same votes.
func TestCountsOfAlike(t *testing.T) {
	choose := func(n, k int) int {
		c := 1
		for i := range k {
			c = c * (n - i) / (i + 1)
		}
		return c
	}
	for nodes := 1; nodes <= api.MaxNodes; nodes++ {
		votes := same(nodes, 1+nodes%api.MaxVotes)
		wantWinning(t, votes, 1<<(nodes-1))
		wantTolerance(t, votes, (nodes-1)/2)
		l := minimal(votes)
		want := choose(nodes, (nodes+1)/2)
		if nodes%2 == 0 {
			want = choose(nodes-1, nodes/2-1) + choose(nodes-1, nodes/2+1)
		}
		if len(l) != want {
			t.Fatalf("the test's own Minimal(%v) has %d sets, not %d", votes, len(l), want)
		}
		wantMinimal(t, votes, l...)
	}
}

// TestOneVoter: Q3 to Q5: one node decides alone, wherever it stands.
func TestOneVoter(t *testing.T) {
	for nodes := 1; nodes <= api.MaxNodes; nodes++ {
		for at := range nodes {
			votes := make([]int, nodes)
			votes[at] = 1
			wantMinimal(t, votes, []int{at})
			wantTolerance(t, votes, 0)
		}
	}
}

// TestRising: Q4: the lists' order is that of their numbers, not of their lengths.
func TestRising(t *testing.T) {
	wantMinimal(t, []int{1, 1, 1, 3, 1}, []int{0, 1, 2, 4}, []int{0, 3}, []int{1, 3}, []int{2, 3}, []int{3, 4})
	wantMinimal(t, []int{1, 4, 1, 1, 1}, []int{0, 1}, []int{0, 2, 3, 4}, []int{1, 2}, []int{1, 3}, []int{1, 4})
	for _, votes := range smallVotes() {
		l := minimal(votes)
		if !slices.IsSortedFunc(l, slices.Compare[[]int]) {
			t.Fatalf("the test's own Minimal(%v) = %v does not rise", votes, l)
		}
	}
}

package quorum_test

import (
	"fmt"
	"math"
	"math/rand"
	"slices"
	"testing"

	"quorate/api"
	"quorate/quorum"
)

// far are numbers that no chapter allows as a vote or a node.
func far() []int {
	return []int{math.MinInt, math.MinInt + 1, -api.MaxCount, -1 << 32, -64, -17, -16, -1, api.MaxNodes, 64, 65, 1 << 16, 1 << 32, api.MaxCount, math.MaxInt}
}

// same is a list of one vote for so many nodes.
func same(nodes, vote int) []int { return slices.Repeat([]int{vote}, nodes) }

// canBe: 11.1, in its own words.
func canBe(votes []int) bool {
	for _, v := range votes {
		if v < 0 || v > 9 {
			return false
		}
	}
	return len(votes) >= 1 && len(votes) <= 16 && slices.ContainsFunc(votes, func(v int) bool { return v != 0 })
}

// isSet tells whether a list is one of nodes of these votes.
func isSet(votes, set []int) bool {
	for i, p := range set {
		if p < 0 || p >= len(votes) || i > 0 && set[i-1] >= p {
			return false
		}
	}
	return true
}

// isQuorate: 11.1, in its own words.
func isQuorate(votes, set []int) bool {
	total, weight := 0, 0
	for _, v := range votes {
		total += v
	}
	for _, p := range set {
		weight += votes[p]
	}
	first := slices.IndexFunc(votes, func(v int) bool { return v != 0 })
	return 2*weight > total || 2*weight == total && slices.Contains(set, first)
}

// setsOf are all sets of nodes: those with node 0 ahead of those without, and so on.
func setsOf(nodes int) [][]int {
	var l [][]int
	var add func(set []int, p int)
	add = func(set []int, p int) {
		if p == nodes {
			l = append(l, set)
			return
		}
		add(append(slices.Clone(set), p), p+1)
		add(set, p+1)
	}
	add(nil, 0)
	return l
}

// othersOf are the nodes that are not in a set.
func othersOf(nodes int, set []int) []int {
	var l []int
	for p := range nodes {
		if !slices.Contains(set, p) {
			l = append(l, p)
		}
	}
	return l
}

// without is a list without its entry at a place.
func without[T any](l []T, at int) []T { return slices.Delete(slices.Clone(l), at, at+1) }

// winning: Q3, in its own words.
func winning(votes []int) int {
	n := 0
	for _, set := range setsOf(len(votes)) {
		if isQuorate(votes, set) {
			n++
		}
	}
	return n
}

// minimal: Q4, in its own words.
func minimal(votes []int) [][]int {
	var l [][]int
	for _, set := range setsOf(len(votes)) {
		least := isQuorate(votes, set)
		for at := range set {
			least = least && !isQuorate(votes, without(set, at))
		}
		if least {
			l = append(l, set)
		}
	}
	slices.SortFunc(l, func(a, b []int) int {
		for i := range a {
			if a[i] != b[i] {
				return a[i] - b[i]
			}
		}
		return 0
	})
	return l
}

// tolerance: Q5, in its own words.
func tolerance(votes []int) int {
	nodes := len(votes)
	isBorne := make([]bool, nodes+1) // by how many are left out
	for f := range isBorne {
		isBorne[f] = true
	}
	for _, gone := range setsOf(nodes) {
		if !isQuorate(votes, othersOf(nodes, gone)) {
			isBorne[len(gone)] = false
		}
	}
	greatest := 0
	for f, borne := range isBorne {
		if borne {
			greatest = f
		}
	}
	return greatest
}

// randomVotes are votes that can be: much alike, or of any kind with some that are 0.
func randomVotes(r *rand.Rand, nodes int) []int {
	most := 1 + r.Intn(api.MaxVotes)
	least := 1 + r.Intn(most)
	votes := make([]int, nodes)
	for p := range votes {
		votes[p] = least + r.Intn(most-least+1)
	}
	if r.Intn(2) == 0 {
		for p := range votes {
			votes[p] = r.Intn(2) * r.Intn(most+1)
		}
	}
	if !canBe(votes) {
		votes[r.Intn(nodes)] = most
	}
	return votes
}

// smallVotes are all lists of up to four nodes with up to three votes each, and some more that can be.
func smallVotes() [][]int {
	var l [][]int
	for nodes := 1; nodes <= 4; nodes++ {
		for k := range 1 << (2 * nodes) {
			votes := make([]int, nodes)
			for p := range votes {
				votes[p] = k >> (2 * p) & 3
			}
			if canBe(votes) {
				l = append(l, votes)
			}
		}
	}
	for nodes := 1; nodes <= 7; nodes++ {
		l = append(l, same(nodes, 1), same(nodes, 9), append(make([]int, nodes), 9, 9), append([]int{9, 9}, make([]int, nodes)...))
	}
	return l
}

// someVotes are drawn ones, of all numbers of nodes.
func someVotes(r *rand.Rand) [][]int {
	var l [][]int
	for nodes := 1; nodes <= api.MaxNodes; nodes++ {
		for range max(1, 60-6*nodes) {
			l = append(l, randomVotes(r, nodes))
		}
	}
	return l
}

func wantQuorate(t *testing.T, votes, set []int, want bool, wantE api.Errno) {
	t.Helper()
	if ok, e := quorum.Quorate(votes, set); ok != want || e != wantE {
		t.Fatalf("Q2: Quorate(%v, %v) = %v, error %d, want %v, error %d", votes, set, ok, e, want, wantE)
	}
}

func wantWinning(t *testing.T, votes []int, want int) {
	t.Helper()
	if n, e := quorum.Winning(votes); n != want || e != api.OK {
		t.Fatalf("Q3: Winning(%v) = %d, error %d, want %d", votes, n, e, want)
	}
}

func wantMinimal(t *testing.T, votes []int, want ...[]int) {
	t.Helper()
	l, e := quorum.Minimal(votes)
	if e != api.OK || !slices.EqualFunc(l, want, slices.Equal[[]int]) {
		t.Fatalf("Q4: Minimal(%v) = %v, error %d, want %v", votes, l, e, want)
	}
}

func wantTolerance(t *testing.T, votes []int, want int) {
	t.Helper()
	if n, e := quorum.Tolerance(votes); n != want || e != api.OK {
		t.Fatalf("Q5: Tolerance(%v) = %d, error %d, want %d", votes, n, e, want)
	}
}

func wantBest(t *testing.T, l []api.Standing, want int, wantE api.Errno) {
	t.Helper()
	if n, e := quorum.Best(l); n != want || e != wantE {
		t.Fatalf("Q7: Best(%v) = %d, error %d, want %d, error %d", l, n, e, want, wantE)
	}
}

func made(t *testing.T, votes ...int) *quorum.Watch {
	t.Helper()
	w, e := quorum.New(votes)
	if w == nil || e != api.OK {
		t.Fatalf("Q8: New(%v): error %d, want a watch", votes, e)
	}
	return w
}

// view makes one whose ID fits its members.
func view(epoch int, members ...api.Member) api.View {
	m := members[0]
	return api.View{ID: api.ViewID{Epoch: epoch, Lead: m.Pid, Inc: m.Inc, Cid: m.Cid}, Members: members}
}

// viewOf makes one of these nodes.
func viewOf(epoch int, pids ...int) api.View {
	var l []api.Member
	for _, p := range pids {
		l = append(l, api.Member{Pid: p, Inc: 1 + p, Cid: 10 + p})
	}
	return view(epoch, l...)
}

// told is all that a watch tells.
type told struct {
	in                bool
	last              api.ViewID
	entered, quorates int
}

func (s told) String() string {
	return fmt.Sprintf("In %v, Last %v, Count %d %d", s.in, s.last, s.entered, s.quorates)
}

func ask(w *quorum.Watch) told {
	n, k := w.Count()
	return told{w.In(), w.Last(), n, k}
}

func wantTold(t *testing.T, w *quorum.Watch, want told) {
	t.Helper()
	for range 2 { // none of them changes anything
		if got := ask(w); got != want {
			t.Fatalf("Q10: %v, want %v", got, want)
		}
	}
}

// wantEntered enters a view that can be entered.
func wantEntered(t *testing.T, w *quorum.Watch, v api.View, want bool) {
	t.Helper()
	before := ask(w)
	if ok, e := w.Enter(v); ok != want || e != api.OK {
		t.Fatalf("Q9: Enter(%v) = %v, error %d, want %v", v, ok, e, want)
	}
	before.in = want
	before.entered++
	if want {
		before.last = v.ID
		before.quorates++
	}
	wantTold(t, w, before)
}

// wantRefused enters a view that is refused and changes nothing.
func wantRefused(t *testing.T, w *quorum.Watch, v api.View, want api.Errno) {
	t.Helper()
	before := ask(w)
	if ok, e := w.Enter(v); ok || e != want {
		t.Fatalf("Q9: Enter(%v) = %v, error %d, want error %d", v, ok, e, want)
	}
	if got := ask(w); got != before {
		t.Fatalf("Q9: a refused Enter(%v) changed %v to %v", v, before, got)
	}
}

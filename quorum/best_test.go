package quorum_test

import (
	"math/rand"
	"slices"
	"testing"

	"quorate/api"
)

// furthest: Q7, in its own words.
func furthest(l []api.Standing) int {
	var epochs, lengths, pids []int
	for _, s := range l {
		epochs = append(epochs, s.Epoch)
	}
	for _, s := range l {
		if s.Epoch == slices.Max(epochs) {
			lengths = append(lengths, s.Length)
		}
	}
	for _, s := range l {
		if s.Epoch == slices.Max(epochs) && s.Length == slices.Max(lengths) {
			pids = append(pids, s.Pid)
		}
	}
	return slices.IndexFunc(l, func(s api.Standing) bool { return s.Pid == slices.Min(pids) })
}

// standings are those of so many nodes, all alike.
func standings(nodes int) []api.Standing {
	l := make([]api.Standing, nodes)
	for p := range l {
		l[p] = api.Standing{Pid: p, Epoch: 3, Length: 7}
	}
	return l
}

// TestNoStandings: Q7, lists that are refused, with the wrong entry at every place.
func TestNoStandings(t *testing.T) {
	wantBest(t, nil, 0, api.ErrArg)
	wantBest(t, []api.Standing{}, 0, api.ErrArg)
	wantBest(t, append(standings(16), api.Standing{Pid: 16}), 0, api.ErrArg)
	wantBest(t, append(standings(16), api.Standing{Pid: 0}), 0, api.ErrArg)
	wantBest(t, standings(17), 0, api.ErrArg)
	wantBest(t, standings(100000), 0, api.ErrArg)
	wantBest(t, make([]api.Standing, 100000), 0, api.ErrArg)
	for nodes := 1; nodes <= api.MaxNodes; nodes++ {
		for at := range nodes {
			wrong := func(change func(s *api.Standing)) {
				t.Helper()
				l := standings(nodes)
				change(&l[at])
				wantBest(t, l, 0, api.ErrArg)
			}
			for _, p := range far() {
				wrong(func(s *api.Standing) { s.Pid = p })
			}
			for _, n := range []int{-1, -2, -api.MaxCount, -api.MaxCount * 2, api.MaxCount + 1, api.MaxCount*2 - 1} {
				wrong(func(s *api.Standing) { s.Epoch = n })
				wrong(func(s *api.Standing) { s.Length = n })
			}
			for other := range nodes {
				if other != at {
					wrong(func(s *api.Standing) { s.Pid = other })
					wrong(func(s *api.Standing) { *s = api.Standing{Pid: other, Epoch: 5, Length: 1} })
				}
			}
		}
	}
}

// TestEdgesOfStandings: Q7, the greatest and the least that may be.
func TestEdgesOfStandings(t *testing.T) {
	top := api.MaxCount
	wantBest(t, []api.Standing{{Pid: 15, Epoch: top, Length: top}}, 0, api.OK)
	wantBest(t, []api.Standing{{Pid: 0, Epoch: top, Length: 0}, {Pid: 15, Epoch: top, Length: top}}, 1, api.OK)
	wantBest(t, []api.Standing{{Pid: 0, Epoch: 0, Length: top}, {Pid: 15, Epoch: top, Length: 0}}, 1, api.OK)
	wantBest(t, []api.Standing{{Pid: 15, Epoch: top - 1, Length: top}, {Pid: 14, Epoch: top, Length: 1}, {Pid: 13, Epoch: top, Length: 0}}, 1, api.OK)
	wantBest(t, []api.Standing{{Pid: 15}, {Pid: 1}, {Pid: 0}, {Pid: 7}}, 2, api.OK)
	wantBest(t, []api.Standing{{Pid: 0, Epoch: 1, Length: 9}, {Pid: 1, Epoch: 2, Length: 1}, {Pid: 2, Epoch: 2, Length: 2}}, 2, api.OK)
}

// TestBestOfAny: Q7, drawn lists, and that the entry does not hang on the list's order.
func TestBestOfAny(t *testing.T) {
	r := rand.New(rand.NewSource(3))
	var alike [3]int // how many have the greatest epoch, and of these the greatest length
	for range 20000 {
		pids := r.Perm(api.MaxNodes)
		l := make([]api.Standing, 1+r.Intn(api.MaxNodes))
		for i := range l {
			l[i] = api.Standing{Pid: pids[i], Epoch: r.Intn(3), Length: r.Intn(3)}
		}
		want := furthest(l)
		wantBest(t, l, want, api.OK)
		best := l[want]
		for range 3 {
			r.Shuffle(len(l), func(i, k int) { l[i], l[k] = l[k], l[i] })
			wantBest(t, l, slices.Index(l, best), api.OK)
		}
		alike[howAlike(l, best)]++
	}
	for k, n := range alike {
		if n < 1000 {
			t.Errorf("the test is too weak: %d lists of kind %d", n, k)
		}
	}
}

// howAlike tells what the best needed: its epoch, its length too, its pid too.
func howAlike(l []api.Standing, best api.Standing) int {
	kind := 0
	for _, s := range l {
		if s.Pid == best.Pid || s.Epoch != best.Epoch {
			continue
		}
		kind = max(kind, 1)
		if s.Length == best.Length {
			kind = 2
		}
	}
	return kind
}

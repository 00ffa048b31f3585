package audit_test

import (
	"math/rand"
	"slices"
	"testing"

	"quorate/api"
	"quorate/audit"
)

// someVotes are those of a drawn service.
func someVotes(r *rand.Rand) []int {
	return [][]int{{1, 1, 1}, {1, 1, 1}, {2, 1, 1}, {0, 1, 1}, {1, 0, 0}, {1, 1, 1, 0}, {0, 0, 9}}[r.Intn(7)]
}

// serviceOf is the verdict of a service that has no error.
func serviceOf(t testing.TB, l []api.Mark, votes []int) api.Verdict {
	t.Helper()
	v, e := audit.Service(l, votes)
	if e != api.OK {
		t.Fatalf("P17.2: error %d", e)
	}
	return v
}

// made is a trace that breaks no rule; on the way each mark that is drawn is held against the chapter's words.
func made(t testing.TB, most int, some func(p past) api.Mark, broken func(p past, m *api.Mark) int, verdict func(l []api.Mark) api.Verdict, seen map[int]int) []api.Mark {
	t.Helper()
	var p past
	var l []api.Mark
	for range 5 * most {
		m := some(p)
		number := broken(p, &m)
		seen[number]++
		want := api.Verdict{}
		if number != 0 {
			want = api.Verdict{Rule: number, At: len(l)}
		}
		l = append(l, m)
		if got := verdict(l); got != want {
			t.Fatalf("P17.1 and P17.2: %v, want %v: %+v", got, want, m)
		}
		if number == 0 && len(l) <= most {
			p = append(p, &m)
		} else {
			l = l[:len(l)-1]
		}
	}
	return l
}

// madeGroup is a trace of a group that breaks no rule of it.
func madeGroup(t testing.TB, r *rand.Rand, most int, seen map[int]int) []api.Mark {
	t.Helper()
	some := func(p past) api.Mark { return sometimesNudged(r, someGroupMark(r, p)) }
	return made(t, most, some, groupBroken, audit.Group, seen)
}

// madeService is a trace of a service that breaks no rule of it.
func madeService(t testing.TB, r *rand.Rand, most int, votes []int, seen map[int]int) []api.Mark {
	t.Helper()
	some := func(p past) api.Mark {
		m := sometimesNudged(r, someServiceMark(r, p))
		m.Node = min(max(m.Node, 0), len(votes)-1) // others are errors
		return m
	}
	return made(t, most, some, serviceBroken(votes), func(l []api.Mark) api.Verdict { return serviceOf(t, l, votes) }, seen)
}

// wantRules: each rule was broken so often.
func wantRules(t *testing.T, seen map[int]int, least map[int]int) {
	t.Helper()
	t.Log(seen)
	for number, n := range least {
		if seen[number] < n {
			t.Errorf("rule %d: %d marks, want %d: the test is too weak", number, seen[number], n)
		}
	}
}

// TestGroupAsTheWords: P17.1: marks of all kinds, held against the rules as the chapter words them.
func TestGroupAsTheWords(t *testing.T) {
	t.Parallel()
	seen := map[int]int{}
	for seed := range int64(120) {
		madeGroup(t, rand.New(rand.NewSource(seed)), 120, seen)
	}
	wantRules(t, seen, map[int]int{0: 15000, 1: 3000, 2: 400, 3: 200, 4: 200, 5: 500, 6: 1500, 7: 5000, 8: 200, 9: 80, 10: 2000, 11: 60})
}

// TestServiceAsTheWords: P17.2: the same for the service.
func TestServiceAsTheWords(t *testing.T) {
	t.Parallel()
	seen := map[int]int{}
	for seed := range int64(100) {
		r := rand.New(rand.NewSource(seed))
		madeService(t, r, 120, someVotes(r), seen)
	}
	wantRules(t, seen, map[int]int{0: 10000, 21: 3000, 22: 3000, 23: 2000, 24: 300, 25: 3000, 26: 30, 27: 100, 28: 3000, 29: 1000})
}

// spoilt is a trace in which something is amiss, perhaps.
func spoilt(r *rand.Rand, l []api.Mark) []api.Mark {
	l = slices.Clone(l)
	i, k := r.Intn(len(l)), r.Intn(len(l))
	switch r.Intn(6) {
	case 0:
		return slices.Delete(l, i, i+1)
	case 1:
		return slices.Insert(l, i, l[k])
	case 2:
		k = min(i+1+r.Intn(4), len(l)-1)
		l[i], l[k] = l[k], l[i]
		l[i].At, l[k].At = l[k].At, l[i].At
	case 3: // of an install
		i = slices.IndexFunc(l, func(m api.Mark) bool { return m.Kind == api.MarkInstall && r.Intn(6) == 0 })
		if i >= 0 {
			l[i] = nudged(r, l[i])
		}
	default:
		l[i] = nudged(r, l[i])
	}
	return l
}

// TestSpoilt: P17.1 and P17.2: traces of scripts in which something is amiss, held against the chapter's words.
func TestSpoilt(t *testing.T) {
	t.Parallel()
	seen := map[int]int{}
	for seed := range int64(250) {
		r, s := drawn(3000+seed, 2)
		whole := played(t, s)
		whole = whole[:min(len(whole), 350)]
		for range 4 {
			l := spoilt(r, whole)
			want := judged(l, groupBroken)
			if got := audit.Group(l); got != want {
				t.Fatalf("P17.1: seed %d: %v, want %v", seed, got, want)
			}
			seen[want.Rule]++
			if slices.ContainsFunc(l, func(m api.Mark) bool { return m.Node < 0 || m.Node >= s.Config.Nodes }) {
				continue
			}
			want = judged(l, serviceBroken(s.Config.Votes))
			if got := serviceOf(t, l, s.Config.Votes); got != want {
				t.Fatalf("P17.2: seed %d: %v, want %v", seed, got, want)
			}
			seen[want.Rule]++
		}
	}
	wantRules(t, seen, map[int]int{0: 500, 1: 150, 2: 20, 4: 10, 6: 20, 7: 30, 8: 10, 10: 10, 11: 5, 21: 10, 22: 10, 25: 5, 28: 5})
}

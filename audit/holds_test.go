package audit_test

import (
	"math/rand"
	"slices"
	"testing"

	"quorate/api"
	"quorate/audit"
	"quorate/machine"
	"quorate/script"
	"quorate/world"
)

// count is how many marks of a kind a trace has.
func count(l []api.Mark, kind int) int {
	n := 0
	for _, m := range l {
		if m.Kind == kind {
			n++
		}
	}
	return n
}

// TestScriptsBreakNone: P17.5: traces of scripts with crashes, torn writes, cuts and losses, without flips and with nothing put in.
func TestScriptsBreakNone(t *testing.T) {
	t.Parallel()
	seen := map[int]int{}
	texts := 0
	for seed := range int64(150) {
		_, s := drawn(5000+seed, 14)
		if seed < 2 {
			s.Config = api.Config{Nodes: 16, Window: 4, Base: 2, Step: 1, Cap: 8, Room: 20000, Votes: slices.Repeat([]int{1}, 16)}
			s.Events = live(rand.New(rand.NewSource(seed)), 16, 5)
		}
		l := played(t, s)
		if v := audit.Group(l); v != (api.Verdict{}) {
			t.Fatalf("P17.5: seed %d: %v: %+v", seed, v, l[v.At])
		}
		if v := serviceOf(t, l, s.Config.Votes); v != (api.Verdict{}) {
			t.Fatalf("P17.5: seed %d: %v: %+v", seed, v, l[v.At])
		}
		if text, e := script.Print(s); e == api.OK {
			trace, _ := world.Run(text)
			wantText(t, trace, s.Config.Votes, api.Verdict{}, api.OK)
			texts++
		}
		for _, m := range l {
			seen[m.Kind]++
		}
		wantOneByOne(t, l)
	}
	for kind, least := range map[int]int{api.MarkBoot: 800, api.MarkCrash: 500, api.MarkInstall: 3000, api.MarkDeliver: 9000, api.MarkSafe: 5000, api.MarkAdopt: 800, api.MarkApply: 3000, api.MarkReply: 800, api.MarkFull: 100, api.MarkLeave: 20} {
		if seen[kind] < least {
			t.Errorf("%d marks of kind %d, want %d: the test is too weak", seen[kind], kind, least)
		}
	}
	if texts < 50 {
		t.Errorf("%d texts: the test is too weak", texts)
	}
}

// TestChapterScripts: P17.5: short scripts, round by round.
func TestChapterScripts(t *testing.T) {
	const one = "quorate 1\nnodes 1 window 4 base 2 step 1 cap 8 room 100 floor 0\nvotes 1\n"
	const two = "quorate 1\nnodes 2 window 2 base 2 step 1 cap 8 room 100 floor 0\nvotes 0 1\n"
	for text, votes := range map[string][]int{
		one: {1}, two: {0, 1},
		one + lines("round", "round", `do 0 set "k" "v"`, "round", "crash 0", "restart 0", "round", "round", `do 0 get "k"`, "round"):           {1},
		one + lines("round", "round", `do 0 set "k" "v"`, "tear 0 0", "restart 0", "round"):                                                     {1},
		one + lines("round", "round", `do 0 set "k" "v"`, "tear 0 100000", "restart 0", "round", "round"):                                       {1},
		two + lines("round", "round", "round", "round", "round", `send 0 "x"`, "round", "round", "leave 1", "round", "round", "round", "round"): {0, 1},
	} {
		trace, e := world.Run(text)
		if e != api.OK {
			t.Fatalf("P16.2: Run(%q): error %d", text, e)
		}
		wantText(t, trace, votes, api.Verdict{}, api.OK)
	}
}

// wantOneByOne: P17.7: the history, done one by one, has the results that were answered; and what was answered ahead of another's being asked for stands ahead of it.
func wantOneByOne(t *testing.T, l []api.Mark) int {
	t.Helper()
	does := machine.New()
	results, indexes := map[api.Command]api.Result{}, map[api.Command]int{}
	for i, c := range audit.History(l) {
		results[c], indexes[c] = does.Apply(c), i+1
	}
	answered, last := 0, 0 // the greatest index that was answered
	asked := map[api.Command]int{}
	for _, m := range l {
		_, before := asked[m.Cmd]
		switch index, is := indexes[m.Cmd]; {
		case m.Kind == api.MarkDo && !before:
			asked[m.Cmd] = last
			if is && index <= last {
				t.Fatalf("P17.7: %+v is asked for when the index %d was answered, and has the index %d", m.Cmd, last, index)
			}
		case m.Kind == api.MarkReply:
			if !is || results[m.Cmd] != m.Result {
				t.Fatalf("P17.7: %+v is answered with %+v; in the one order it has %+v", m.Cmd, m.Result, results[m.Cmd])
			}
			last = max(last, index)
			answered++
		}
	}
	return answered
}

// TestOneByOne: P17.7: made traces, with gaps, and with incarnations that begin anew.
func TestOneByOne(t *testing.T) {
	t.Parallel()
	answered, seen := 0, map[int]int{}
	for seed := range int64(40) {
		r := rand.New(rand.NewSource(6000 + seed))
		answered += wantOneByOne(t, madeService(t, r, 150, someVotes(r), seen))
	}
	if answered < 150 {
		t.Errorf("%d answers: the test is too weak", answered)
	}
}

// wantBeginnings: P17.6, of one of the two lists of rules.
func wantBeginnings(t *testing.T, r *rand.Rand, l []api.Mark, verdict func(l []api.Mark) api.Verdict) int {
	t.Helper()
	v := verdict(l)
	whole := len(l)
	if v.Rule != 0 {
		whole = v.At
	}
	for range 5 {
		if k := r.Intn(whole + 1); verdict(l[:k]) != (api.Verdict{}) {
			t.Fatalf("P17.6: %v; the first %d of %d marks: %v", v, k, len(l), verdict(l[:k]))
		}
	}
	if verdict(l[:whole]) != (api.Verdict{}) {
		t.Fatalf("P17.6: %v; the first %d of %d marks: %v", v, whole, len(l), verdict(l[:whole]))
	}
	if v.Rule == 0 {
		return 0
	}
	for range 5 {
		other := slices.Clone(l[:v.At+1])
		for range r.Intn(4) {
			m := l[r.Intn(len(l))]
			if r.Intn(2) == 0 {
				m.Kind, m.N = r.Intn(20), r.Intn(20)
			}
			other = append(other, m)
		}
		if got := verdict(other); got != v {
			t.Fatalf("P17.6: %v, with other marks behind it %v", v, got)
		}
	}
	return 1
}

// TestBeginnings: P17.6: a beginning of a whole trace is whole, and what is broken stays broken.
func TestBeginnings(t *testing.T) {
	t.Parallel()
	broken := 0
	for seed := range int64(100) {
		r, s := drawn(7000+seed, 3)
		l := played(t, s)
		service := func(l []api.Mark) api.Verdict {
			v, _ := audit.Service(l, slices.Concat(s.Config.Votes, slices.Repeat([]int{0}, 16-s.Config.Nodes)))
			return v
		}
		for range 4 {
			broken += wantBeginnings(t, r, l, audit.Group) + wantBeginnings(t, r, l, service)
			l = spoilt(r, l)
		}
	}
	if broken < 150 {
		t.Errorf("%d broken traces: the test is too weak", broken)
	}
}

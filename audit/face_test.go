package audit_test

import (
	"math/rand"
	"slices"
	"strings"
	"testing"

	"quorate/api"
	"quorate/audit"
	"quorate/script"
)

// wantRefused: Service answers this error and the zero Verdict.
func wantRefused(t *testing.T, l []api.Mark, votes []int, want api.Errno) {
	t.Helper()
	if v, e := audit.Service(l, votes); v != (api.Verdict{}) || e != want {
		t.Errorf("P17.2: of the votes %v: %v, error %d, want error %d", votes, v, e, want)
	}
}

// noVotes are lists that cannot be votes.
func noVotes() [][]int {
	l := [][]int{nil, {}, {0}, {0, 0}, {-1}, {10}, {1, -1}, {1, 10}, {1, 1, 0, 10}, slices.Repeat([]int{1}, 17), slices.Repeat([]int{0}, 16)}
	for _, n := range far() {
		l = append(l, []int{1, n})
	}
	return l
}

// TestVotes: P17.2: votes that cannot be, ahead of all else.
func TestVotes(t *testing.T) {
	broken := marks(t, "0 apply 0 1\n")
	for _, votes := range noVotes() {
		wantRefused(t, nil, votes, api.ErrVotes)
		wantRefused(t, marks(t, pair), votes, api.ErrVotes)
		wantRefused(t, broken, votes, api.ErrVotes)
		wantRefused(t, []api.Mark{{Node: 99}}, votes, api.ErrVotes)
		wantText(t, head, votes, api.Verdict{}, api.ErrVotes)
		wantText(t, head+"0 boot 99 1\n", votes, api.Verdict{}, api.ErrVotes)
	}
	for _, votes := range [][]int{{1}, {9}, {0, 9}, slices.Repeat([]int{9}, 16)} {
		wantRefused(t, nil, votes, api.OK)
		wantRefused(t, marks(t, "0 boot 0 1\n"), votes, api.OK)
	}
}

// TestNodes: P17.2: a node that has no votes entry, in a mark of whatever kind and place.
func TestNodes(t *testing.T) {
	for n := 1; n <= api.MaxNodes; n++ {
		votes := slices.Repeat([]int{1}, n)
		for _, kind := range append(far(), 0, 1, 5, 7, 10, 11, 12, 13, 15, 16, 17) {
			for _, pid := range append(far(), n, n+1, 17) {
				bad := api.Mark{Kind: kind, Node: pid}
				wantRefused(t, []api.Mark{bad}, votes, api.ErrArg)
				wantRefused(t, []api.Mark{{Kind: api.MarkBoot, Inc: 1}, {Kind: api.MarkRound}, bad}, votes, api.ErrArg)
				wantRefused(t, []api.Mark{{Kind: api.MarkApply}, bad}, votes, api.ErrArg) // ahead of a rule that is broken
				wantRefused(t, []api.Mark{bad, {Kind: api.MarkApply}}, votes, api.ErrArg)
			}
		}
		for pid := range n {
			wantRefused(t, []api.Mark{{Kind: api.MarkBoot, Node: pid}}, votes, api.OK)
		}
	}
}

// TestServiceLooksAway: P17.2: marks of other kinds break no rule of the service, whatever they tell.
func TestServiceLooksAway(t *testing.T) {
	r := rand.New(rand.NewSource(3))
	for range 3000 {
		m := strange(r)
		m.Node = r.Intn(3)
		for slices.Contains([]int{api.MarkAdopt, api.MarkDo, api.MarkApply, api.MarkReply}, m.Kind) {
			m.Kind = strange(r).Kind
		}
		wantService(t, 0, three(), served(t, "6 do 0 1"+set1), m)
	}
}

// wantText: what Text answers.
func wantText(t *testing.T, text string, votes []int, want api.Verdict, wantE api.Errno) {
	t.Helper()
	if v, e := audit.Text(text, votes); v != want || e != wantE {
		t.Errorf("P17.3: Text(%q, %v) = %v, error %d, want %v, error %d", text, votes, v, e, want, wantE)
	}
}

// TestTextErrors: P17.3: the text's errors, then those of Service.
func TestTextErrors(t *testing.T) {
	for _, votes := range [][]int{{1}, {1, 1}, nil, {0}, {10}} {
		for _, text := range []string{"", "x", "quorate trace 1", "quorate trace 2\n", "quorate 1\n", "\n" + head, "quorate trace 1\r\n"} {
			wantText(t, text, votes, api.Verdict{}, api.ErrHeader)
		}
		for _, text := range []string{"\n", "x\n", "0 boot 0 1", "0 boot 0\n", "0 boot 0 1\n0 boot 0 2", "0 boot 0 1 \n", "0 boot 0 2\n00 boot 1 1\n", "0 boot 99 1\nx\n", "0 crash 0 1\n-1 boot 0 1\n"} {
			wantText(t, head+text, votes, api.Verdict{}, api.ErrLine)
		}
	}
	wantText(t, head+"0 boot 1 1\n", []int{1}, api.Verdict{}, api.ErrArg)
	wantText(t, head+"0 crash 0 1\n0 boot 1 1\n", []int{1}, api.Verdict{}, api.ErrArg) // ahead of a broken rule
	wantText(t, head+"0 boot 1 1\n", []int{1, 0}, api.Verdict{}, api.OK)
	wantText(t, head+"0 boot 16 1\n", slices.Repeat([]int{1}, 16), api.Verdict{}, api.ErrArg)
	wantText(t, head, []int{1}, api.Verdict{}, api.OK)
}

// TestTextVerdicts: P17.3: the group's Verdict, if there is one, and else the service's.
func TestTextVerdicts(t *testing.T) {
	wantText(t, head+pair, even(), api.Verdict{}, api.OK)
	wantText(t, head+pair+lines("6 adopt 0 1 id=2/0/1/2", "6 adopt 0 1 id=2/0/1/2"), even(), api.Verdict{Rule: 21, At: 9}, api.OK)
	wantText(t, head+pair+lines("6 adopt 0 1 id=2/0/1/2", "6 adopt 0 1 id=2/0/1/2", "6 boot 0 2"), even(), api.Verdict{Rule: 1, At: 10}, api.OK) // the group's, though it comes later
	wantText(t, head+pair+lines("6 boot 0 2", "6 adopt 0 1 id=1/0/1/1"), even(), api.Verdict{Rule: 1, At: 8}, api.OK)
	wantText(t, head+pair+lines("6 adopt 0 1 id=2/0/1/2", "6 crash 0 1", "6 adopt 0 1 id=2/0/1/2"), even(), api.Verdict{Rule: 1, At: 10}, api.OK) // both break at one mark
	wantText(t, head+pair+lines("6 adopt 0 1 id=2/0/1/2"), []int{1, 1, 3}, api.Verdict{Rule: 21, At: 8}, api.OK)
}

// TestTextAsMarks: P17.3: of made traces, whole and broken ones.
func TestTextAsMarks(t *testing.T) {
	seen := [3]int{}
	for seed := range int64(60) {
		r, s := drawn(4000+seed, 3)
		l := played(t, s)
		for range 4 {
			text, e := script.PrintTrace(l)
			if e == api.OK {
				want := audit.Group(l)
				service, e := audit.Service(l, s.Config.Votes)
				switch {
				case e != api.OK:
					want = api.Verdict{}
				case want.Rule == 0:
					want = service
				}
				wantText(t, text, s.Config.Votes, want, e)
				seen[min(want.Rule, 1)+want.Rule/20]++
			}
			l = spoilt(r, l)
		}
	}
	if seen[0] < 60 || seen[1] < 20 || seen[2] < 5 {
		t.Errorf("%v: the test is too weak", seen)
	}
}

// wantHistory: what History answers.
func wantHistory(t *testing.T, l []api.Mark, want ...api.Command) {
	t.Helper()
	if got := audit.History(l); !slices.Equal(got, want) {
		t.Errorf("P17.4: History: %v, want %v", got, want)
	}
}

// TestHistory: P17.4: the first MarkApply of each index, up to the first gap.
func TestHistory(t *testing.T) {
	c := func(k int) api.Command {
		return api.Command{Client: k, Key: strings.Repeat("k", k), Val: "v", Old: "o"}
	}
	apply := func(n, k int) api.Mark { return api.Mark{Kind: api.MarkApply, N: n, Cmd: c(k)} }
	wantHistory(t, []api.Mark{apply(1, 1)}, c(1))
	wantHistory(t, []api.Mark{apply(2, 1)})
	wantHistory(t, []api.Mark{apply(2, 2), apply(1, 1)}, c(1), c(2))
	wantHistory(t, []api.Mark{apply(1, 1), apply(1, 2), apply(2, 3), apply(2, 1)}, c(1), c(3))
	wantHistory(t, []api.Mark{apply(4, 4), apply(1, 1), apply(2, 2), apply(5, 5)}, c(1), c(2))
	wantHistory(t, []api.Mark{apply(4, 4), apply(1, 1), apply(2, 2), apply(5, 5), apply(3, 3), apply(7, 7)}, c(1), c(2), c(3), c(4), c(5))
	wantHistory(t, []api.Mark{apply(1, 5), apply(2, 5), apply(3, 5)}, c(5), c(5), c(5)) // no rule is asked
	for _, n := range append(far(), 0, api.MaxCount) {
		wantHistory(t, []api.Mark{apply(n, 9), apply(1, 1), apply(n, 8), apply(2, 2), apply(n, 7)}, c(1), c(2))
	}
	for _, kind := range append(far(), 0, 1, 7, 10, 11, 13, 15, 16, 17) { // marks of other kinds
		other := with(apply(1, 9), func(m *api.Mark) { m.Kind = kind })
		wantHistory(t, []api.Mark{other})
		wantHistory(t, []api.Mark{other, apply(1, 1), with(other, func(m *api.Mark) { m.N = 2 })}, c(1))
	}
}

// strange is a mark of which anything may be anything.
func strange(r *rand.Rand) api.Mark {
	pool := slices.Concat(far(), []int{0, 0, 0, 1, 1, 1, 2, 2, 3, 7, 12, 15, 16, api.MaxCount})
	n := func() int { return pool[r.Intn(len(pool))] }
	text := func() string { return []string{"", "", "a", "1", "-7", "123456789"}[r.Intn(6)] }
	m := api.Mark{At: n(), Kind: 1 + r.Intn(16), Node: n(), Inc: n(), ID: api.ViewID{Epoch: n(), Lead: n(), Inc: n(), Cid: n()}, Sender: n(), Seq: n(), Pos: n(), N: n(), Body: []byte(text()),
		Cmd: api.Command{Client: n(), Inc: n(), Req: n(), Op: n(), Key: text(), Val: text(), Old: text()}, Result: api.Result{Code: n(), Val: text(), N: n()}, Err: api.Errno(n())}
	for range r.Intn(20) {
		m.Members = append(m.Members, api.Member{Pid: n(), Inc: n(), Cid: n()})
		m.Trans = append(m.Trans, n())
	}
	if r.Intn(8) == 0 {
		m.Kind = n()
	}
	return m
}

// TestStrange: rule 2: every call ends and none panics, whatever the marks are.
func TestStrange(t *testing.T) {
	r := rand.New(rand.NewSource(9))
	for range 20000 {
		l := make([]api.Mark, r.Intn(8))
		for i := range l {
			l[i] = strange(r)
			if r.Intn(2) == 0 {
				l[i].At, l[i].Node, l[i].Inc = 0, r.Intn(2), 1
			}
		}
		if r.Intn(2) == 0 {
			l = behind(marks(t, pair), l...)
		}
		if got, want := audit.Group(l), judged(l, groupBroken); got != want {
			t.Fatalf("P17.1: %v, want %v", got, want)
		}
		audit.History(l)
		audit.Service(l, []int{1, 1})
		for i := range l {
			l[i].Node = min(max(l[i].Node, 0), 1)
		}
		if got, want := serviceOf(t, l, []int{1, 1}), judged(l, serviceBroken([]int{1, 1})); got != want {
			t.Fatalf("P17.2: %v, want %v", got, want)
		}
	}
}

// TestLong: rule 2: long lists are gone through once.
func TestLong(t *testing.T) {
	past := marks(t, lines("0 boot 0 1", "0 install 0 1 id=1/0/1/1 members=0/1/1 trans=0"))
	id := past[1].ID
	for n := 1; n <= 100000; n++ {
		past = append(past, api.Mark{Kind: api.MarkSend, Inc: 1, ID: id, Seq: n}, api.Mark{Kind: api.MarkDeliver, Inc: 1, ID: id, Seq: n, Pos: 2 * n}, api.Mark{Kind: api.MarkSafe, Inc: 1, ID: id, Pos: 2 * n})
	}
	wantGroup(t, 10, past, past[len(past)-1])
	var l []api.Mark
	for n := 1; n <= 60000; n++ {
		c := api.Command{Inc: n, Req: 1, Op: api.OpGet, Key: "k"}
		in := api.ViewID{Epoch: 70000 - n}
		l = append(l, api.Mark{Kind: api.MarkInstall, Inc: n, ID: in, Members: []api.Member{{}}}, api.Mark{Kind: api.MarkAdopt, Inc: n, ID: in, N: n}, api.Mark{Kind: api.MarkDo, Inc: n, Cmd: c},
			api.Mark{Kind: api.MarkApply, Inc: n, N: n, Cmd: c, Result: api.Result{Code: api.ResNone}})
	}
	wantService(t, 28, []int{1}, l, api.Mark{Kind: api.MarkReply})
	if h := audit.History(l); len(h) != 60000 {
		t.Errorf("P17.4: %d entries", len(h))
	}
}

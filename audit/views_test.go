package audit_test

import (
	"fmt"
	"math"
	"slices"
	"testing"

	"quorate/api"
	"quorate/audit"
)

// TestTimes: rule 1: At never goes back, and is never below 0.
func TestTimes(t *testing.T) {
	first := mark(t, "0 boot 0 1")
	at := func(m api.Mark, at int) api.Mark { return with(m, func(m *api.Mark) { m.At = at }) }
	for _, n := range []int{0, 1, 4000, api.MaxCount, api.MaxCount + 1, math.MaxInt} {
		wantGroup(t, 0, nil, at(first, n))
		past := []api.Mark{at(first, n)}
		round := mark(t, "0 round 0 0 n=1")
		wantGroup(t, 0, past, at(round, n))
		wantGroup(t, 0, past, at(round, math.MaxInt))
		wantGroup(t, 1, past, at(round, n-1))
		wantGroup(t, 1, past, at(round, math.MinInt))
	}
	for _, n := range []int{-1, -2, -api.MaxCount, math.MinInt} {
		wantGroup(t, 1, nil, at(first, n))
	}
	past := marks(t, lines("0 boot 0 1", "7 round 0 0 n=1", "7 leave 0 1"))
	wantLines(t, 0, past, "7 round 0 0 n=2", "8 leave 0 1")
	wantLines(t, 1, past, "6 round 0 0 n=2", "6 leave 0 1", "0 boot 1 1")
}

// TestKinds: rule 1: each of the sixteen kinds has its place, and there are no others.
func TestKinds(t *testing.T) {
	text := pair + lines(`5 send 0 1 id=2/0/1/2 seq=1 body="x"`, "6 round 0 0 n=1", `6 deliver 0 1 id=2/0/1/2 seq=1 pos=1 body="x"`, `6 deliver 1 1 id=2/0/1/2 seq=1 pos=1 body="x"`,
		"6 safe 0 1 id=2/0/1/2 pos=1", "6 adopt 0 1 id=2/0/1/2", "6 refuse 0 1 err=100", "6 do 0 1", "6 apply 0 1 n=4", "6 reply 0 1", "6 full 0 1 n=1", "6 leave 0 1", "6 block 0 1 id=2/0/1/2", "6 halt 0 1 n=1", "7 crash 0 1")
	past := marks(t, text)
	seen := map[int]int{}
	for _, m := range past {
		seen[m.Kind]++
	}
	if len(seen) != 16 {
		t.Fatalf("the test's own trace has %d kinds", len(seen))
	}
	for _, m := range []api.Mark{mark(t, "7 boot 2 1"), mark(t, "7 leave 1 1"), mark(t, "7 round 0 0 n=2")} {
		wantGroup(t, 0, past, m)
		for _, kind := range append(far(), 0, 17, 18, 256+api.MarkBoot) {
			wantGroup(t, 1, past, with(m, func(m *api.Mark) { m.Kind = kind }))
		}
	}
}

// TestRounds: rule 1: rounds are counted, and are nobody's.
func TestRounds(t *testing.T) {
	past := []api.Mark{}
	for n := 1; n < 6; n++ {
		m := api.Mark{Kind: api.MarkRound, N: n}
		wantGroup(t, 0, past, m)
		for _, k := range append(far(), 0, n-1, n+1) {
			wantGroup(t, 1, past, with(m, func(m *api.Mark) { m.N = k }))
		}
		for _, k := range append(far(), 1, 2, 15, 16) {
			wantGroup(t, 1, past, with(m, func(m *api.Mark) { m.Node = k }))
			wantGroup(t, 1, past, with(m, func(m *api.Mark) { m.Inc = k }))
		}
		past = behind(past, m, api.Mark{Kind: api.MarkBoot, Node: n, Inc: 1}, api.Mark{Kind: api.MarkFull, Node: n, Inc: 1, N: 77})
		wantGroup(t, 1, past, with(m, func(m *api.Mark) { m.Node, m.Inc = n, 1 }))
	}
}

// others are marks of node 1, incarnation 3, one of each kind that only who is up may make.
func others() []api.Mark {
	var l []api.Mark
	for kind := api.MarkHalt; kind <= api.MarkLeave; kind++ {
		if kind != api.MarkRound {
			l = append(l, api.Mark{Kind: kind, Node: 1, Inc: 3})
		}
	}
	return l
}

// breaks tells whether a mark breaks rule 1 behind a trace.
func breaks(t *testing.T, past []api.Mark, m api.Mark) bool {
	t.Helper()
	if v := audit.Group(past); v != (api.Verdict{}) {
		t.Fatalf("P17.1: mark %d of the test's own trace breaks rule %d", v.At, v.Rule)
	}
	return audit.Group(behind(past, m)) == api.Verdict{Rule: 1, At: len(past)}
}

// TestWhoMarks: rule 1: who makes marks is up, with this incarnation, and not halted.
func TestWhoMarks(t *testing.T) {
	up := marks(t, lines("0 boot 0 1", "0 boot 1 3"))
	halted := behind(up, mark(t, "0 halt 1 3 n=1"))
	down := behind(up, mark(t, "0 crash 1 3"))
	anew := behind(down, mark(t, "0 boot 1 4"))
	for _, m := range others() {
		if breaks(t, up, m) {
			t.Errorf("rule 1: broken by %+v", m)
		}
		for what, past := range map[string][]api.Mark{"not up yet": up[:1], "halted": halted, "down": down, "anew": anew} {
			if !breaks(t, past, m) {
				t.Errorf("rule 1: %s: not broken by %+v", what, m)
			}
		}
		for _, inc := range append(far(), 0, 1, 2, 4) {
			if !breaks(t, up, with(m, func(m *api.Mark) { m.Inc = inc })) {
				t.Errorf("rule 1: not broken by %+v with the incarnation %d", m, inc)
			}
		}
		for _, pid := range append(far(), 0, 2, 15, 16, 17, 1+256) {
			if !breaks(t, up, with(m, func(m *api.Mark) { m.Node = pid })) {
				t.Errorf("rule 1: not broken by %+v of node %d", m, pid)
			}
		}
	}
}

// TestBoots: rule 1: a boot is that of a greater incarnation, of one that is not up.
func TestBoots(t *testing.T) {
	boot := func(pid, inc int) api.Mark { return api.Mark{Kind: api.MarkBoot, Node: pid, Inc: inc} }
	crash := func(pid, inc int) api.Mark { return api.Mark{Kind: api.MarkCrash, Node: pid, Inc: inc} }
	for pid := range api.MaxNodes {
		for _, inc := range []int{1, 2, 77, api.MaxCount, math.MaxInt} {
			wantGroup(t, 0, nil, boot(pid, inc))
			up := []api.Mark{boot(pid, inc)}
			wantGroup(t, 1, up, boot(pid, inc))
			wantGroup(t, 1, up, boot(pid, math.MaxInt))
			wantGroup(t, 0, up, boot((pid+1)%api.MaxNodes, 1))
			down := behind(up, crash(pid, inc))
			wantGroup(t, 1, down, boot(pid, inc))
			wantGroup(t, 1, down, boot(pid, inc-1))
			wantGroup(t, 1, down, boot(pid, 0))
			wantGroup(t, 1, down, crash(pid, inc))
			if inc < math.MaxInt {
				wantGroup(t, 0, down, boot(pid, inc+1))
				wantGroup(t, 0, down, boot(pid, math.MaxInt))
			}
		}
		for _, inc := range []int{0, -1, math.MinInt} {
			wantGroup(t, 1, nil, boot(pid, inc))
		}
	}
	for _, pid := range append(far(), 16, 17, 256) {
		wantGroup(t, 1, nil, boot(pid, 1))
		wantGroup(t, 1, nil, crash(pid, 1))
	}
}

// TestCrashes: rule 1: who is up can crash, halted or not; and may boot again then alone.
func TestCrashes(t *testing.T) {
	up := marks(t, "0 boot 2 5\n")
	halted := behind(up, mark(t, "0 halt 2 5 n=1"))
	for _, past := range [][]api.Mark{up, halted} {
		wantLines(t, 0, past, "0 crash 2 5")
		wantLines(t, 1, past, "0 crash 2 4", "0 crash 2 6", "0 crash 2 0", "0 crash 1 5", "0 boot 2 6", "0 boot 2 5")
		down := behind(past, mark(t, "0 crash 2 5"))
		wantLines(t, 1, down, "0 crash 2 5", "0 crash 2 6", "0 crash 2 0", "0 halt 2 5", "0 leave 2 5", "0 boot 2 5")
		wantLines(t, 0, down, "0 boot 2 6")
		wantLines(t, 0, behind(down, mark(t, "0 boot 2 6")), "0 halt 2 6", "0 leave 2 6", "0 crash 2 6")
	}
	wantLines(t, 1, halted, "0 halt 2 5", "0 leave 2 5")
	wantLines(t, 1, nil, "0 crash 2 5", "0 crash 2 0")
}

// TestAfresh: 17.2: an incarnation begins with nothing of the one ahead.
func TestAfresh(t *testing.T) {
	past := behind(marks(t, pair), marks(t, lines(`5 send 1 1 id=2/0/1/2 seq=1`, `5 deliver 1 1 id=2/0/1/2 sender=1 seq=1 pos=3`, "5 crash 1 1", "5 boot 1 2"))...)
	wantLines(t, 5, past, "5 block 1 2 id=2/0/1/2")
	wantLines(t, 6, past, "5 send 1 2 id=2/0/1/2 seq=2", "5 send 1 2 id=2/0/1/2 seq=1", "5 send 1 2 seq=1")
	wantLines(t, 7, past, "5 deliver 1 2 id=2/0/1/2 sender=1 seq=1 pos=3", "5 deliver 1 2 sender=1 seq=1 pos=3", "5 deliver 1 2")
	wantLines(t, 10, past, "5 safe 1 2 id=2/0/1/2 pos=1", "5 safe 1 2 pos=1")
	wantLines(t, 0, past, "5 install 1 2 id=1/1/2/1 members=1/2/1 trans=1") // its epochs begin anew
	wantLines(t, 11, past, "5 install 1 2 id=1/1/2/1 members=1/2/1 trans=1 n=1")
	wantLines(t, 4, past, "5 install 1 2 id=3/0/1/3 members=0/1/3,1/2/1 trans=0,1")
}

// TestMembers: rule 2: what members can be.
func TestMembers(t *testing.T) {
	past := marks(t, "0 boot 3 2\n")
	good := mark(t, "0 install 3 2 id=5/1/4/6 members=1/4/6,3/2/7,9/1/1 trans=3")
	wantGroup(t, 0, past, good)
	for k := range 3 {
		for _, n := range append(far(), 0) {
			if n <= 0 {
				wantGroup(t, 2, past, leading(with(good, func(m *api.Mark) { m.Members[k].Inc = n })))
				wantGroup(t, 2, past, leading(with(good, func(m *api.Mark) { m.Members[k].Cid = n })))
			} else if k != 1 {
				wantGroup(t, 0, past, leading(with(good, func(m *api.Mark) { m.Members[k].Inc, m.Members[k].Cid = n, n })))
			}
			if n != 0 || k != 0 {
				wantGroup(t, 2, past, leading(with(good, func(m *api.Mark) { m.Members[k].Pid = n })))
			}
		}
		for _, pid := range []int{16, 17, 1 << 40} {
			wantGroup(t, 2, past, leading(with(good, func(m *api.Mark) { m.Members[k].Pid = pid })))
		}
	}
	wantLines(t, 0, past, "0 install 3 2 id=5/0/4/6 members=0/4/6,3/2/7,15/1/1 trans=3")
	wantLines(t, 2, past, "0 install 3 2 id=5/1/4/6 trans=3", "0 install 3 2 trans=3", "0 install 3 2",
		"0 install 3 2 id=5/1/4/6 members=1/4/6,3/2/7,3/1/1 trans=3", "0 install 3 2 id=5/1/4/6 members=1/4/6,9/2/7,3/2/1 trans=3", "0 install 3 2 id=5/3/2/6 members=3/2/6,1/4/6 trans=3",
		"0 install 3 2 id=5/1/4/6 members=1/4/6,1/4/6,3/2/7 trans=3", "0 install 3 2 id=5/1/4/6 members=1/4/6,9/1/1 trans=3",
		"0 install 3 2 id=5/1/4/6 members=1/4/6,3/1/7,9/1/1 trans=3", "0 install 3 2 id=5/1/4/6 members=1/4/6,3/3/7 trans=3", "0 install 3 2 id=5/1/4/6 members=1/4/6,2/2/7 trans=3")
	full := api.Mark{Kind: api.MarkInstall, Node: 3, Inc: 2, Trans: []int{3}, ID: api.ViewID{Epoch: 1}}
	for pid := range api.MaxNodes {
		full.Members = append(full.Members, api.Member{Pid: pid, Inc: 2, Cid: pid + 1})
	}
	wantGroup(t, 0, past, leading(full))
	wantGroup(t, 2, past, leading(with(full, func(m *api.Mark) { m.Members = append(m.Members, api.Member{Pid: 16, Inc: 1, Cid: 1}) })))
	wantGroup(t, 2, past, leading(with(full, func(m *api.Mark) { m.Members = append(m.Members, api.Member{Pid: 15, Inc: 1, Cid: 1}) })))
}

// leading is an install whose ID has the first member's numbers.
func leading(m api.Mark) api.Mark {
	if len(m.Members) > 0 {
		m.ID.Lead, m.ID.Inc, m.ID.Cid = m.Members[0].Pid, m.Members[0].Inc, m.Members[0].Cid
	}
	return m
}

// TestIDs: rule 2: the ID is the first member's, and epochs rise.
func TestIDs(t *testing.T) {
	boot := marks(t, "0 boot 3 2\n")
	good := mark(t, "0 install 3 2 id=5/1/4/6 members=1/4/6,3/2/7 trans=3")
	for _, past := range [][]api.Mark{boot, behind(boot, mark(t, "0 install 3 2 id=4/1/4/6 members=1/4/6,3/2/7 trans=3"), mark(t, "0 block 3 2"))} {
		wantGroup(t, 0, past, good)
		wantGroup(t, 0, past, with(good, func(m *api.Mark) { m.ID.Epoch = math.MaxInt }))
		for _, n := range append(far(), 0, 2, 3, 7) {
			wantGroup(t, 2, past, with(good, func(m *api.Mark) { m.ID.Lead = n }))
			wantGroup(t, 2, past, with(good, func(m *api.Mark) { m.ID.Inc = n }))
			wantGroup(t, 2, past, with(good, func(m *api.Mark) { m.ID.Cid = n }))
			if n <= 0 {
				wantGroup(t, 2, past, with(good, func(m *api.Mark) { m.ID.Epoch = n }))
			}
		}
		wantLines(t, 2, past, "0 install 3 2 id=5/3/2/7 members=1/4/6,3/2/7 trans=3", "0 install 3 2 members=1/4/6,3/2/7 trans=3")
	}
	wantLines(t, 0, boot, "0 install 3 2 id=1/1/4/6 members=1/4/6,3/2/7 trans=3")
	later := behind(boot, good, mark(t, "0 block 3 2"))
	for _, epoch := range []int{-5, 0, 1, 4, 5} {
		wantGroup(t, 2, later, with(good, func(m *api.Mark) { m.ID.Epoch = epoch }))
		wantGroup(t, 2, later, leading(with(good, func(m *api.Mark) { m.ID.Epoch, m.Members[0].Cid = epoch, 9 })))
	}
	wantLines(t, 0, later, "0 install 3 2 id=6/1/4/6 members=1/4/6,3/2/7 trans=3")
	third := behind(later, mark(t, "0 install 3 2 id=9/1/4/6 members=1/4/6,3/2/7 trans=3"), mark(t, "0 block 3 2"))
	wantLines(t, 2, third, "0 install 3 2 id=6/1/4/6 members=1/4/6,3/2/7 trans=3", "0 install 3 2 id=9/1/4/6 members=1/4/6,3/2/7 trans=3")
	wantLines(t, 0, third, "0 install 3 2 id=10/1/4/6 members=1/4/6,3/2/7 trans=3")
}

// TestOneSet: rule 3: one ID, one set, over all nodes and incarnations.
func TestOneSet(t *testing.T) {
	past := marks(t, lines("0 boot 0 1", "0 boot 1 1", "0 boot 2 1", "1 install 0 1 id=1/0/1/1 members=0/1/1,1/1/1,2/1/1 trans=0"))
	good := mark(t, "1 install 1 1 id=1/0/1/1 members=0/1/1,1/1/1,2/1/1 trans=1")
	crashed := behind(past, marks(t, lines("1 crash 0 1", "1 boot 0 2"))...)
	moved := behind(past, marks(t, lines("1 block 0 1", "1 install 0 1 id=2/0/1/2 members=0/1/2 trans=0"))...)
	for _, l := range [][]api.Mark{past, crashed, moved} {
		wantGroup(t, 0, l, good)
		wantGroup(t, 3, l, with(good, func(m *api.Mark) { m.Members = m.Members[:2] }))
		wantGroup(t, 3, l, with(good, func(m *api.Mark) { m.Members = append(m.Members, api.Member{Pid: 5, Inc: 1, Cid: 1}) }))
		wantGroup(t, 3, l, with(good, func(m *api.Mark) { m.Members[2].Inc = 2 }))
		wantGroup(t, 3, l, with(good, func(m *api.Mark) { m.Members[2].Cid = 2 }))
		wantGroup(t, 3, l, with(good, func(m *api.Mark) { m.Members[2].Pid = 3 }))
		wantGroup(t, 3, l, with(good, func(m *api.Mark) { m.Members[1].Cid = 7 }))
		wantGroup(t, 0, l, leading(with(good, func(m *api.Mark) { m.Members[0].Cid = 2; m.ID.Epoch = 7; m.Members = m.Members[:2] }))) // another ID
	}
	both := behind(past, good)
	third := mark(t, "1 install 2 1 id=1/0/1/1 members=0/1/1,1/1/1,2/1/1 trans=2")
	wantGroup(t, 0, both, third)
	wantGroup(t, 3, both, with(third, func(m *api.Mark) { m.Members[1].Cid = 5 }))
	wantLines(t, 2, behind(past, mark(t, "1 block 0 1")), "1 install 0 1 id=1/0/1/1 members=0/1/1,1/1/1,2/1/1 trans=0") // the same one again
}

// TestTransForm: rule 4: a transitional set is one of the view's members, the node among them; of who comes from no view, it alone.
func TestTransForm(t *testing.T) {
	boot := marks(t, lines("0 boot 1 1"))
	from := behind(boot, marks(t, lines("1 install 1 1 id=1/0/1/1 members=0/1/1,1/1/1,2/1/1,4/1/1 trans=1", "1 block 1 1"))...)
	m := mark(t, "2 install 1 1 id=2/0/1/2 members=0/1/2,1/1/2,2/1/2,4/1/2 trans=1")
	trans := func(l ...int) api.Mark { return with(m, func(m *api.Mark) { m.Trans = l }) }
	for _, l := range [][]int{{1}, {0, 1}, {1, 2}, {0, 1, 2, 4}, {1, 4}, {0, 1, 4}} {
		wantGroup(t, 0, from, trans(l...))
		if len(l) > 1 {
			wantGroup(t, 4, boot, trans(l...))
		}
	}
	wantGroup(t, 0, boot, trans(1))
	bad := [][]int{{}, nil, {0}, {2}, {0, 2, 4}, {1, 1}, {1, 0}, {0, 1, 1}, {0, 0, 1}, {2, 1}, {1, 3}, {3}, {1, 5}, {1, 16}, {-1, 1}, {math.MinInt, 1}, {1, math.MaxInt}, {0, 1, 2, 3, 4}, {1, 4, 2}}
	for _, l := range bad {
		wantGroup(t, 4, from, trans(l...))
		wantGroup(t, 4, boot, trans(l...))
	}
}

// TestTogether: rule 4: who installs the same view from the same one is in each other's set, and nobody else who installed it.
func TestTogether(t *testing.T) {
	const w = "6 install %d 1 id=4/0/1/4 members=0/1/4,1/1/3,2/1/1 trans=%s"
	blocked := behind(marks(t, pair), marks(t, lines("5 boot 2 1", "6 block 0 1", "6 block 1 1"))...)
	behindView := func(pid int, trans string) []api.Mark { return behind(blocked, mark(t, fmt.Sprintf(w, pid, trans))) }
	to := func(rule int, past []api.Mark, pid int, trans string) {
		t.Helper()
		wantLines(t, rule, past, fmt.Sprintf(w, pid, trans))
	}
	to(0, blocked, 0, "0")
	to(0, blocked, 0, "0,1,2") // of those who have not installed it, nothing is known yet
	for _, tc := range []struct {
		rule         int
		first        int
		told         string
		second       int
		secondsTrans string
	}{
		{0, 0, "0,1", 1, "0,1"}, {4, 0, "0,1", 1, "1"}, {4, 0, "0", 1, "0,1"}, {4, 0, "0", 1, "1"}, // both from the pair's view
		{0, 1, "0,1", 0, "0,1"}, {0, 1, "0,1,2", 0, "0,1"}, {0, 1, "0,1,2", 0, "0,1,2"}, {4, 1, "1,2", 0, "0,1"}, {4, 1, "0,1", 0, "0,2"},
		{0, 0, "0", 2, "2"}, {0, 0, "0,1", 2, "2"}, {4, 0, "0,2", 2, "2"}, {4, 0, "0,1,2", 2, "2"}, // node 2 comes from no view
		{0, 2, "2", 0, "0"}, {0, 2, "2", 0, "0,1"}, {4, 2, "2", 0, "0,2"}, {4, 2, "2", 0, "0,1,2"},
	} {
		to(tc.rule, behindView(tc.first, tc.told), tc.second, tc.secondsTrans)
	}
	all := behind(behindView(1, "0,1"), mark(t, fmt.Sprintf(w, 0, "0,1")))
	to(0, all, 2, "2")
	to(4, behind(behindView(1, "0,1,2"), mark(t, fmt.Sprintf(w, 0, "0,1"))), 2, "2") // one of the two earlier ones is not with it
	third := behind(marks(t, pair), marks(t, lines("6 block 0 1", "6 block 1 1", "6 install 0 1 id=3/0/1/3 members=0/1/3 trans=0", "6 block 0 1"))...)
	late := behind(third, mark(t, fmt.Sprintf(w, 1, "0,1")))
	to(4, late, 0, "0") // it has come over another view
	to(4, late, 0, "0,1")
	to(0, behind(third, mark(t, fmt.Sprintf(w, 1, "1"))), 0, "0")
	to(4, behind(third, mark(t, fmt.Sprintf(w, 1, "1"))), 0, "0,1")
}

// TestNoneWithNone: rule 4: two that come from no view do not come together.
func TestNoneWithNone(t *testing.T) {
	past := marks(t, lines("0 boot 0 1", "0 boot 1 1", "1 install 1 1 id=1/0/1/1 members=0/1/1,1/1/1 trans=1"))
	wantLines(t, 0, past, "1 install 0 1 id=1/0/1/1 members=0/1/1,1/1/1 trans=0")
	wantLines(t, 4, past, "1 install 0 1 id=1/0/1/1 members=0/1/1,1/1/1 trans=0,1", "1 install 0 1 id=1/0/1/1 members=0/1/1,1/1/1 trans=1", "1 install 0 1 id=1/0/1/1 members=0/1/1,1/1/1")
}

// TestBlocks: rule 5: blocks and installs take turns.
func TestBlocks(t *testing.T) {
	boot := marks(t, "0 boot 0 1\n")
	first := mark(t, "1 install 0 1 id=1/0/1/1 members=0/1/1 trans=0")
	second := mark(t, "1 install 0 1 id=2/0/1/1 members=0/1/1 trans=0")
	third := mark(t, "1 install 0 1 id=3/0/1/1 members=0/1/1 trans=0")
	block := mark(t, "1 block 0 1 id=1/0/1/1")
	wantGroup(t, 5, boot, block)
	wantGroup(t, 0, boot, first)
	in := behind(boot, first)
	wantGroup(t, 5, in, second)
	wantGroup(t, 0, in, block)
	blocked := behind(in, block)
	wantGroup(t, 5, blocked, block)
	wantGroup(t, 0, blocked, second)
	wantGroup(t, 5, behind(blocked, second), third)
	wantGroup(t, 0, behind(blocked, second), block)
	wantLines(t, 0, in, "1 block 0 1", "1 block 0 1 id=9/9/9/9") // which view it names is not asked
	wantGroup(t, 0, behind(blocked, second, block), third)
	wantLines(t, 5, behind(blocked, marks(t, lines("1 crash 0 1", "1 boot 0 2"))...), "1 block 0 2 id=1/0/1/1")
}

// TestEndsAlike: rule 9: who goes on together has delivered just as many.
func TestEndsAlike(t *testing.T) {
	const w = "7 install %d 1 id=3/0/1/3 members=0/1/3,1/1/3 trans=0,1%s"
	sent := behind(marks(t, pair), marks(t, lines(`5 send 0 1 id=2/0/1/2 seq=1 body="x"`, `5 send 0 1 id=2/0/1/2 seq=2 body="y"`))...)
	got := func(pid, n int) []api.Mark {
		l := marks(t, lines(fmt.Sprintf(`6 deliver %d 1 id=2/0/1/2 seq=1 pos=1 body="x"`, pid), fmt.Sprintf(`6 deliver %d 1 id=2/0/1/2 seq=2 pos=4 body="y"`, pid)))
		return append(l[:n], mark(t, fmt.Sprintf("6 block %d 1", pid)))
	}
	lost := func(n int) string { return []string{" n=2", " n=1", ""}[n] }
	for a := range 3 {
		for b := range 3 {
			rule := 9
			if a == b {
				rule = 0
			}
			past := slices.Concat(sent, got(1, a), got(0, b), []api.Mark{mark(t, fmt.Sprintf(w, 1, ""))})
			wantLines(t, rule, past, fmt.Sprintf(w, 0, lost(b)))
			past = slices.Concat(sent, got(1, a), got(0, b), []api.Mark{mark(t, fmt.Sprintf(w, 0, lost(b)))})
			wantLines(t, rule, past, fmt.Sprintf(w, 1, ""))
			past = behind(past, mark(t, "7 crash 0 1")) // it counts all the same
			wantLines(t, rule, past, fmt.Sprintf(w, 1, ""))
			past = slices.Concat(sent, got(1, a), got(0, b), marks(t, lines("7 install 1 1 id=3/1/1/3 members=1/1/3 trans=1")))
			wantLines(t, 0, past, "7 install 0 1 id=3/0/1/3 members=0/1/3 trans=0"+lost(b)) // into views of their own
		}
	}
}

// TestEndsApart: rule 9: of those that came from another view it asks nothing, however many they delivered there.
func TestEndsApart(t *testing.T) {
	past := behind(marks(t, pair), marks(t, lines(`5 send 0 1 id=2/0/1/2 seq=1 body="x"`, `6 deliver 0 1 id=2/0/1/2 seq=1 pos=1 body="x"`, "6 block 0 1", "6 block 1 1",
		"7 install 1 1 id=3/1/1/3 members=1/1/3 trans=1", "8 block 1 1", "9 install 1 1 id=4/0/1/3 members=0/1/3,1/1/4,2/1/1 trans=1", "9 boot 2 1"))...)
	wantLines(t, 0, past, "9 install 0 1 id=4/0/1/3 members=0/1/3,1/1/4,2/1/1 trans=0", "9 install 2 1 id=4/0/1/3 members=0/1/3,1/1/4,2/1/1 trans=2")
	past = behind(past, mark(t, "9 install 2 1 id=4/0/1/3 members=0/1/3,1/1/4,2/1/1 trans=2"))
	wantLines(t, 0, past, "9 install 0 1 id=4/0/1/3 members=0/1/3,1/1/4,2/1/1 trans=0")
}

// TestLost: rule 11: just what was accepted and not delivered is told as lost.
func TestLost(t *testing.T) {
	past := behind(marks(t, pair), marks(t, lines(`5 send 0 1 id=2/0/1/2 seq=1 body="x"`, `5 send 1 1 id=2/0/1/2 seq=1 body="z"`, `5 send 0 1 id=2/0/1/2 seq=2 body="y"`, `5 send 0 1 id=2/0/1/2 seq=3`,
		`6 deliver 0 1 id=2/0/1/2 seq=1 pos=1 body="x"`, `6 deliver 0 1 id=2/0/1/2 sender=1 seq=1 pos=2 body="z"`, "6 block 0 1", `6 deliver 0 1 id=2/0/1/2 seq=2 pos=3 body="y"`))...)
	m := mark(t, "7 install 0 1 id=3/0/1/3 members=0/1/3 trans=0 n=1")
	lost := func(n int) api.Mark { return with(m, func(m *api.Mark) { m.N = n }) }
	wantGroup(t, 0, past, m)
	for _, n := range append(far(), 0, 2, 3, 4) {
		wantGroup(t, 11, past, lost(n))
	}
	for _, n := range append(far(), 1, 2) { // of who had no view
		wantGroup(t, 11, marks(t, "0 boot 0 1\n"), lost(n))
	}
	next := behind(past, m, mark(t, "7 block 0 1"))
	wantLines(t, 0, next, "8 install 0 1 id=4/0/1/3 members=0/1/3 trans=0")
	wantLines(t, 11, next, "8 install 0 1 id=4/0/1/3 members=0/1/3 trans=0 n=1") // it was told once
}

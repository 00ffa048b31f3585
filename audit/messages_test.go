package audit_test

import (
	"math"
	"slices"
	"testing"

	"quorate/api"
	"quorate/audit"
)

// TestAccepted: rule 6: what a node may accept, and when.
func TestAccepted(t *testing.T) {
	boot := marks(t, lines("0 boot 0 1"))
	wantLines(t, 6, boot, "0 send 0 1 seq=1", "0 send 0 1 id=1/0/1/1 seq=1")
	past := marks(t, pair)
	send := mark(t, `5 send 0 1 id=2/0/1/2 seq=1 body="x"`)
	for seq := 1; seq < 5; seq++ {
		good := with(send, func(m *api.Mark) { m.Seq = seq })
		wantGroup(t, 0, past, good)
		for _, n := range append(far(), 0, seq-1, seq+1) {
			wantGroup(t, 6, past, with(good, func(m *api.Mark) { m.Seq = n }))
		}
		for _, n := range append(far(), 1, 3) {
			wantGroup(t, 6, past, with(good, func(m *api.Mark) { m.ID.Epoch = n }))
			wantGroup(t, 6, past, with(good, func(m *api.Mark) { m.ID.Cid = n }))
		}
		wantGroup(t, 6, past, with(good, func(m *api.Mark) { m.ID.Lead = 1 }))
		wantGroup(t, 6, past, with(good, func(m *api.Mark) { m.ID.Inc = 2 }))
		wantGroup(t, 6, past, with(good, func(m *api.Mark) { m.ID = api.ViewID{} }))
		blocked := behind(past, mark(t, "5 block 0 1"))
		wantGroup(t, 6, blocked, good)
		wantLines(t, 0, blocked, `5 send 1 1 id=2/0/1/2 seq=1`) // the other one is not blocked
		past = behind(past, good)
	}
	next := behind(past, marks(t, lines("6 block 0 1", "6 install 0 1 id=3/0/1/3 members=0/1/3 trans=0 n=4"))...)
	wantLines(t, 0, next, "6 send 0 1 id=3/0/1/3 seq=1")
	wantLines(t, 6, next, "6 send 0 1 id=3/0/1/3 seq=5", "6 send 0 1 id=2/0/1/2 seq=5", "6 send 0 1 id=2/0/1/2 seq=1")
}

// sent: node 0 has accepted two messages in the pair's view, node 1 one.
func sent(t *testing.T) []api.Mark {
	t.Helper()
	return behind(marks(t, pair), marks(t, lines(`5 send 0 1 id=2/0/1/2 seq=1 body="x"`, `5 send 0 1 id=2/0/1/2 seq=2`, `5 send 1 1 id=2/0/1/2 seq=1 body="z"`))...)
}

// TestDelivered: rule 7: what may be delivered behind nothing.
func TestDelivered(t *testing.T) {
	past := sent(t)
	good := mark(t, `6 deliver 1 1 id=2/0/1/2 seq=1 pos=3 body="x"`)
	wantGroup(t, 0, past, good)
	wantGroup(t, 0, behind(past, mark(t, "5 block 1 1")), good) // a block does not end it
	for _, n := range []int{1, 2, api.MaxCount, math.MaxInt} {
		wantGroup(t, 0, past, with(good, func(m *api.Mark) { m.Pos = n }))
	}
	for _, n := range []int{0, -1, -2, math.MinInt} {
		wantGroup(t, 7, past, with(good, func(m *api.Mark) { m.Pos = n }))
	}
	for _, n := range append(far(), 2, 3, 15, 16) {
		wantGroup(t, 7, past, with(good, func(m *api.Mark) { m.Sender = n }))
	}
	for _, n := range append(far(), 0, 2, 3) {
		wantGroup(t, 7, past, with(good, func(m *api.Mark) { m.Seq = n }))
	}
	for _, body := range []string{"", "y", "xx", "X", "x\x00", "z"} {
		wantGroup(t, 7, past, with(good, func(m *api.Mark) { m.Body = []byte(body) }))
	}
	wantLines(t, 7, past, `6 deliver 1 1 id=1/1/1/1 seq=1 pos=3 body="x"`, `6 deliver 1 1 seq=1 pos=3 body="x"`, `6 deliver 1 1 id=2/0/1/3 seq=1 pos=3 body="x"`, `6 deliver 1 1 id=2/1/1/2 seq=1 pos=3 body="x"`,
		`6 deliver 1 1 id=2/0/1/2 seq=2 pos=3`, `6 deliver 1 1 id=2/0/1/2 sender=1 seq=1 pos=3 body="x"`, `6 deliver 1 1 id=2/0/1/2 sender=1 seq=2 pos=3`)
	wantLines(t, 0, past, `6 deliver 1 1 id=2/0/1/2 sender=1 seq=1 pos=3 body="z"`, `6 deliver 0 1 id=2/0/1/2 sender=1 seq=1 pos=3 body="z"`)
	wantLines(t, 7, marks(t, lines("0 boot 0 1")), `6 deliver 0 1 seq=1 pos=1`, `6 deliver 0 1 id=2/0/1/2 seq=1 pos=1`)
	wantLines(t, 7, marks(t, pair), `6 deliver 1 1 id=2/0/1/2 seq=1 pos=3 body="x"`, `6 deliver 1 1 id=2/0/1/2 seq=1 pos=3`) // nothing was accepted
}

// TestDeliveredNext: rule 7: what may be delivered behind something.
func TestDeliveredNext(t *testing.T) {
	past := behind(sent(t), mark(t, `6 deliver 1 1 id=2/0/1/2 seq=1 pos=3 body="x"`))
	next := mark(t, `6 deliver 1 1 id=2/0/1/2 seq=2 pos=4`)
	wantGroup(t, 0, past, next)
	wantGroup(t, 0, past, with(next, func(m *api.Mark) { m.Body = []byte{} }))
	wantGroup(t, 0, past, with(next, func(m *api.Mark) { m.Pos = 100 }))
	for _, n := range []int{3, 2, 1, 0, -1, math.MinInt} {
		wantGroup(t, 7, past, with(next, func(m *api.Mark) { m.Pos = n }))
	}
	wantLines(t, 7, past, `6 deliver 1 1 id=2/0/1/2 seq=1 pos=4 body="x"`, `6 deliver 1 1 id=2/0/1/2 seq=3 pos=4`, `6 deliver 1 1 id=2/0/1/2 seq=2 pos=4 body="x"`)
	wantLines(t, 0, past, `6 deliver 1 1 id=2/0/1/2 sender=1 seq=1 pos=4 body="z"`) // each sender's are counted by themselves
	past = behind(past, mark(t, `6 deliver 1 1 id=2/0/1/2 sender=1 seq=1 pos=4 body="z"`))
	wantLines(t, 0, past, `6 deliver 1 1 id=2/0/1/2 seq=2 pos=5`)
	wantLines(t, 7, past, `6 deliver 1 1 id=2/0/1/2 seq=2 pos=4`, `6 deliver 1 1 id=2/0/1/2 seq=1 pos=5 body="x"`, `6 deliver 1 1 id=2/0/1/2 sender=1 seq=1 pos=5 body="z"`)
}

// TestDeliveredOf: rule 7: which incarnation's messages, and of which view.
func TestDeliveredOf(t *testing.T) {
	deliver := mark(t, `6 deliver 1 1 id=2/0/1/2 seq=1 pos=3 body="x"`)
	gone := behind(sent(t), marks(t, lines("6 crash 0 1", "6 boot 0 2"))...)
	wantGroup(t, 0, gone, deliver) // who has crashed has accepted it still
	moved := behind(sent(t), marks(t, lines("6 block 0 1", "6 install 0 1 id=3/0/1/3 members=0/1/3 trans=0 n=2"))...)
	wantGroup(t, 0, moved, deliver)
	wantGroup(t, 7, behind(moved, mark(t, `6 send 0 1 id=3/0/1/3 seq=1 body="w"`)), with(deliver, func(m *api.Mark) { m.Body = []byte("w") }))
	self := behind(sent(t), marks(t, lines("6 block 1 1", "6 install 1 1 id=3/1/1/3 members=1/1/3 trans=1 n=1"))...)
	wantGroup(t, 7, self, deliver) // its own view is another one now
	wantGroup(t, 7, self, with(deliver, func(m *api.Mark) { m.ID = api.ViewID{Epoch: 3, Lead: 1, Inc: 1, Cid: 3} }))
	early := behind(marks(t, pair)[:7], mark(t, "5 send 1 1 id=2/0/1/2 seq=1"))
	wantLines(t, 0, early, "5 deliver 1 1 id=2/0/1/2 sender=1 seq=1 pos=1")
	wantLines(t, 7, early, "5 deliver 1 1 id=2/0/1/2 seq=1 pos=1", "5 deliver 0 1 id=2/0/1/2 sender=1 seq=1 pos=1") // node 0 has not installed it yet
	next := behind(sent(t), marks(t, lines("6 block 0 1", "6 block 1 1", "7 install 0 1 id=3/0/1/3 members=0/1/3,1/1/3 trans=0,1 n=2", "7 install 1 1 id=3/0/1/3 members=0/1/3,1/1/3 trans=0,1 n=1"))...)
	wantLines(t, 7, next, `7 deliver 1 1 id=3/0/1/3 seq=1 pos=1 body="x"`, `7 deliver 1 1 id=2/0/1/2 seq=1 pos=1 body="x"`)
	wantLines(t, 0, behind(next, mark(t, "7 send 0 1 id=3/0/1/3 seq=1")), "7 deliver 1 1 id=3/0/1/3 seq=1 pos=1") // seq and pos begin anew
}

// TestOneOrder: rule 8: the k-th is the same for all.
func TestOneOrder(t *testing.T) {
	first := behind(sent(t), marks(t, lines(`6 deliver 1 1 id=2/0/1/2 seq=1 pos=3 body="x"`, `6 deliver 1 1 id=2/0/1/2 sender=1 seq=1 pos=5 body="z"`))...)
	one, two := mark(t, `6 deliver 0 1 id=2/0/1/2 seq=1 pos=3 body="x"`), mark(t, `6 deliver 0 1 id=2/0/1/2 sender=1 seq=1 pos=5 body="z"`)
	crashed := behind(first, mark(t, "6 crash 1 1"))
	moved := behind(first, marks(t, lines("6 block 1 1", "6 install 1 1 id=3/1/1/3 members=1/1/3 trans=1"))...)
	for _, past := range [][]api.Mark{first, crashed, moved} {
		wantGroup(t, 0, past, one)
		for _, pos := range []int{1, 2, 4, 5, 6} {
			wantGroup(t, 8, past, with(one, func(m *api.Mark) { m.Pos = pos }))
		}
		wantLines(t, 8, past, `6 deliver 0 1 id=2/0/1/2 sender=1 seq=1 pos=3 body="z"`, `6 deliver 0 1 id=2/0/1/2 sender=1 seq=1 pos=5 body="z"`)
		past = behind(past, one)
		wantGroup(t, 0, past, two)
		for _, pos := range []int{4, 6} {
			wantGroup(t, 8, past, with(two, func(m *api.Mark) { m.Pos = pos }))
		}
		wantLines(t, 8, past, `6 deliver 0 1 id=2/0/1/2 seq=2 pos=5`)
		past = behind(past, two)
		wantLines(t, 0, past, `6 deliver 0 1 id=2/0/1/2 seq=2 pos=6`, `6 deliver 0 1 id=2/0/1/2 seq=2 pos=9`) // nobody has a third
	}
	ahead := behind(first, marks(t, lines(`6 deliver 0 1 id=2/0/1/2 seq=1 pos=3 body="x"`, `6 deliver 0 1 id=2/0/1/2 sender=1 seq=1 pos=5 body="z"`, `6 deliver 0 1 id=2/0/1/2 seq=2 pos=8`))...)
	wantLines(t, 0, ahead, `6 deliver 1 1 id=2/0/1/2 seq=2 pos=8`)
	wantLines(t, 8, ahead, `6 deliver 1 1 id=2/0/1/2 seq=2 pos=7`, `6 deliver 1 1 id=2/0/1/2 seq=2 pos=9`)
}

// TestOrderOfAll: rule 8: whichever of the others has delivered most.
func TestOrderOfAll(t *testing.T) {
	text := lines("0 boot 0 1", "0 boot 1 1", "0 boot 2 1")
	for _, p := range []string{"0", "1", "2"} {
		text += "1 install " + p + " 1 id=1/0/1/1 members=0/1/1,1/1/1,2/1/1 trans=" + p + "\n"
	}
	text += lines("1 send 0 1 id=1/0/1/1 seq=1", "1 send 0 1 id=1/0/1/1 seq=2", "1 send 1 1 id=1/0/1/1 seq=1")
	past := behind(marks(t, text), marks(t, lines("1 deliver 0 1 id=1/0/1/1 seq=1 pos=1", "1 deliver 1 1 id=1/0/1/1 seq=1 pos=1", "1 deliver 1 1 id=1/0/1/1 sender=1 seq=1 pos=2"))...)
	wantLines(t, 0, past, "1 deliver 2 1 id=1/0/1/1 seq=1 pos=1", "1 deliver 0 1 id=1/0/1/1 sender=1 seq=1 pos=2")
	wantLines(t, 8, past, "1 deliver 2 1 id=1/0/1/1 seq=1 pos=2", "1 deliver 2 1 id=1/0/1/1 sender=1 seq=1 pos=1", "1 deliver 0 1 id=1/0/1/1 seq=2 pos=2", "1 deliver 0 1 id=1/0/1/1 sender=1 seq=1 pos=3")
}

// TestSafe: rule 10: what is told safe, all members have.
func TestSafe(t *testing.T) {
	in := sent(t)
	safe := mark(t, "6 safe 0 1 id=2/0/1/2 pos=1")
	upto := func(pos int) api.Mark { return with(safe, func(m *api.Mark) { m.Pos = pos }) }
	for _, n := range []int{1, 2, api.MaxCount, math.MaxInt} {
		wantGroup(t, 0, in, upto(n)) // nobody has delivered anything
	}
	for _, n := range []int{0, -1, math.MinInt} {
		wantGroup(t, 10, in, upto(n))
	}
	own := behind(in, marks(t, lines(`6 deliver 0 1 id=2/0/1/2 seq=1 pos=3 body="x"`, `6 deliver 0 1 id=2/0/1/2 sender=1 seq=1 pos=5 body="z"`))...)
	wantGroup(t, 0, own, upto(2))
	for _, n := range []int{3, 4, 5, 6, math.MaxInt} {
		wantGroup(t, 10, own, upto(n)) // it alone has that
	}
	other := behind(own, mark(t, `6 deliver 1 1 id=2/0/1/2 seq=1 pos=3 body="x"`))
	for n := 1; n < 5; n++ {
		wantGroup(t, 0, other, upto(n))
		wantGroup(t, 0, other, with(upto(n), func(m *api.Mark) { m.Node = 1 }))
	}
	wantGroup(t, 10, other, upto(5))
	wantGroup(t, 10, other, with(upto(5), func(m *api.Mark) { m.Node = 1 })) // it lacks what the other has
	both := behind(other, mark(t, `6 deliver 1 1 id=2/0/1/2 sender=1 seq=1 pos=5 body="z"`))
	wantGroup(t, 0, both, upto(5))
	wantGroup(t, 0, both, upto(math.MaxInt))
	wantLines(t, 10, both, "6 safe 0 1 id=1/0/1/1 pos=1", "6 safe 0 1 pos=1", "6 safe 0 1 id=2/0/1/3 pos=1", "6 safe 0 1 id=3/0/1/2 pos=1", "6 safe 0 1 id=2/1/1/2 pos=1")
	wantGroup(t, 10, behind(both, mark(t, "6 block 0 1")), safe)
	wantGroup(t, 0, behind(both, mark(t, "6 block 1 1")), upto(5)) // the other one's block does not matter
	wantGroup(t, 0, behind(both, mark(t, "6 crash 1 1")), upto(5)) // nor its crash
	wantGroup(t, 0, behind(both, marks(t, lines("6 crash 1 1", "6 boot 1 2"))...), upto(5))
	wantGroup(t, 0, behind(both, marks(t, lines("6 block 1 1", "6 install 1 1 id=3/1/1/3 members=1/1/3 trans=1"))...), upto(5)) // nor its next view
	wantLines(t, 10, marks(t, "0 boot 0 1\n"), "0 safe 0 1 pos=1", "0 safe 0 1 id=1/0/1/1 pos=1")
}

// TestSafeRises: rule 10: each one is told above the last one of the view.
func TestSafeRises(t *testing.T) {
	past := behind(sent(t), mark(t, "6 safe 0 1 id=2/0/1/2 pos=4"))
	wantLines(t, 0, past, "6 safe 0 1 id=2/0/1/2 pos=5", "6 safe 1 1 id=2/0/1/2 pos=1", "6 safe 1 1 id=2/0/1/2 pos=4")
	wantLines(t, 10, past, "6 safe 0 1 id=2/0/1/2 pos=4", "6 safe 0 1 id=2/0/1/2 pos=3", "6 safe 0 1 id=2/0/1/2")
	next := behind(past, marks(t, lines("6 block 0 1", "6 install 0 1 id=3/0/1/3 members=0/1/3 trans=0 n=2"))...)
	wantLines(t, 0, next, "6 safe 0 1 id=3/0/1/3 pos=1")
	wantLines(t, 10, next, "6 safe 0 1 id=2/0/1/2 pos=5")
}

// TestSafeAlone: rule 10: nothing is safe while a member has not installed the view, nor ever if another incarnation of it has come.
func TestSafeAlone(t *testing.T) {
	past := marks(t, pair)[:7]
	wantLines(t, 10, past, "5 safe 1 1 id=2/0/1/2 pos=1")
	wantLines(t, 0, marks(t, pair), "5 safe 1 1 id=2/0/1/2 pos=1")
	anew := behind(past, marks(t, lines("5 crash 0 1", "5 boot 0 2", "5 install 0 2 id=3/0/2/1 members=0/2/1 trans=0"))...)
	wantLines(t, 10, anew, "5 safe 1 1 id=2/0/1/2 pos=1")
}

// TestLowest: P17.1: of several rules that a mark breaks the lowest, and of several marks the first.
func TestLowest(t *testing.T) {
	past := behind(sent(t), mark(t, `6 deliver 1 1 id=2/0/1/2 seq=1 pos=3 body="x"`))
	good := mark(t, "6 install 0 1 id=3/0/1/3 members=0/1/3,1/1/3 trans=0,1 n=2")
	wantGroup(t, 5, past, good)
	blocked := behind(past, marks(t, lines("6 block 0 1", "6 block 1 1", "6 install 1 1 id=3/0/1/3 members=0/1/3,1/1/3 trans=0,1 n=1"))...)
	wantGroup(t, 9, blocked, good)
	wantGroup(t, 9, blocked, with(good, func(m *api.Mark) { m.N = 7 }))
	wantGroup(t, 11, behind(blocked, mark(t, `6 deliver 0 1 id=2/0/1/2 seq=1 pos=3 body="x"`)), good)
	worse := []struct {
		rule   int
		change func(m *api.Mark)
	}{{11, func(m *api.Mark) { m.N = 9 }}, {4, func(m *api.Mark) { m.Trans = nil }}, {3, func(m *api.Mark) { m.Members[1].Cid = 9 }}, {2, func(m *api.Mark) { m.Members[0].Cid = 9 }}, {1, func(m *api.Mark) { m.At = 1 }}}
	unblocked := behind(past, marks(t, lines("6 block 1 1", "6 install 1 1 id=3/0/1/3 members=0/1/3,1/1/3 trans=0,1 n=1"))...)
	m := good
	for i, w := range worse {
		m = with(m, w.change)
		want := w.rule
		if i == 0 {
			want = 5 // it is not blocked either
		}
		wantGroup(t, want, unblocked, m)
	}
	l := behind(unblocked, m, mark(t, "0 boot 0 1"))
	if v := audit.Group(l); v != (api.Verdict{Rule: 1, At: len(unblocked)}) {
		t.Errorf("P17.1: %v, want the first of two", v)
	}
	wantLines(t, 7, past, `6 deliver 0 1 id=2/0/1/2 sender=1 seq=1 pos=1 body="x"`) // 8 too
	wantLines(t, 1, past, `5 deliver 0 1 id=2/0/1/2 sender=1 seq=1 pos=1 body="x"`)
}

// TestNothing: P17.1: what has no marks breaks no rule.
func TestNothing(t *testing.T) {
	for _, l := range [][]api.Mark{nil, {}, slices.Grow([]api.Mark{}, 5)} {
		if v := audit.Group(l); v != (api.Verdict{}) {
			t.Errorf("P17.1: of no marks: %v", v)
		}
		if v, e := audit.Service(l, []int{1}); v != (api.Verdict{}) || e != api.OK {
			t.Errorf("P17.2: of no marks: %v, error %d", v, e)
		}
		if h := audit.History(l); len(h) != 0 {
			t.Errorf("P17.4: of no marks: %v", h)
		}
	}
}

package audit_test

import (
	"fmt"
	"math"
	"slices"
	"testing"

	"quorate/api"
	"quorate/machine"
)

// Commands and results as lines tell them.
const (
	set1 = ` cmd=0/1/1/1/"a"/"x"/""`
	get1 = ` cmd=1/1/1/2/"a"/""/""`
	get2 = ` cmd=0/1/2/2/"a"/""/""`
	new1 = ` result=1/""/0`  // a set of a new key
	has1 = ` result=1/"x"/1` // a get of it
	no1  = ` result=2/""/0`  // there is no such key
)

// even: each of two nodes has a vote, each of three.
func even() []int  { return []int{1, 1} }
func three() []int { return []int{1, 1, 1} }

// served: the pair has adopted.
func served(t *testing.T, more ...string) []api.Mark {
	t.Helper()
	return behind(marks(t, pair), marks(t, lines(append([]string{"6 adopt 0 1 id=2/0/1/2", "6 adopt 1 1 id=2/0/1/2"}, more...)...))...)
}

// TestAdopt: rule 21: in a quorate view, once, with as many entries done as there are at most.
func TestAdopt(t *testing.T) {
	past := marks(t, pair)
	wantAnswers(t, 0, even(), past, "6 adopt 0 1 id=2/0/1/2", "6 adopt 1 1 id=2/0/1/2", "6 adopt 0 1 id=2/0/1/2 n=5", "6 adopt 0 1 id=2/0/1/2 pos=5 n=5", "6 adopt 0 1 id=2/0/1/2 pos=4 n=5", "6 adopt 0 1 id=2/0/1/2 pos=4 n=4611686018427387904")
	wantAnswers(t, 21, even(), past, "6 adopt 0 1 id=1/0/1/1", "6 adopt 0 1", "6 adopt 0 1 id=2/0/1/3", "6 adopt 0 1 id=2/1/1/2", "6 adopt 0 1 id=2/0/2/2", "6 adopt 0 1 id=3/0/1/2",
		"6 adopt 0 2 id=2/0/1/2", "6 adopt 0 0 id=2/0/1/2", "6 adopt 0 1 id=2/0/1/2 pos=1", "6 adopt 0 1 id=2/0/1/2 pos=6 n=5")
	m := mark(t, "6 adopt 0 1 id=2/0/1/2 pos=4 n=5")
	for _, n := range far() {
		if n < 0 {
			wantService(t, 21, even(), past, with(m, func(m *api.Mark) { m.Pos = n }))
			wantService(t, 21, even(), past, with(m, func(m *api.Mark) { m.N = n }))
			wantService(t, 21, even(), past, with(m, func(m *api.Mark) { m.N, m.Pos = n, n }))
		} else {
			wantService(t, 21, even(), past, with(m, func(m *api.Mark) { m.Pos = n }))
			wantService(t, 0, even(), past, with(m, func(m *api.Mark) { m.N, m.Pos = n, n }))
		}
	}
	wantAnswers(t, 21, even(), marks(t, "0 boot 0 1\n"), "0 adopt 0 1", "0 adopt 0 1 id=1/0/1/1")
	wantAnswers(t, 21, even(), nil, "0 adopt 0 1", "0 adopt 0 1 id=1/0/1/1")
}

// TestAdoptQuorate: rule 21: the view's members have most votes, or half of them and the first that votes.
func TestAdoptQuorate(t *testing.T) {
	alone := marks(t, pair)[:4]
	wantAnswers(t, 0, even(), alone, "1 adopt 0 1 id=1/0/1/1") // half, with the first voter
	wantAnswers(t, 21, even(), alone, "1 adopt 1 1 id=1/1/1/1")
	wantAnswers(t, 0, []int{0, 1}, alone, "1 adopt 1 1 id=1/1/1/1")
	wantAnswers(t, 21, []int{0, 1}, alone, "1 adopt 0 1 id=1/0/1/1")
	wantAnswers(t, 21, three(), alone, "1 adopt 0 1 id=1/0/1/1", "1 adopt 1 1 id=1/1/1/1")
	wantAnswers(t, 0, three(), marks(t, pair), "6 adopt 0 1 id=2/0/1/2")
	wantAnswers(t, 21, []int{1, 1, 3}, marks(t, pair), "6 adopt 0 1 id=2/0/1/2")
}

// TestAdoptAny: 17.4: an install sets the view, whatever that is; it is quorate as its members' list stands.
func TestAdoptAny(t *testing.T) {
	in := func(id string, members string) []api.Mark {
		return marks(t, lines("0 install 0 7"+id+members))
	}
	wantAnswers(t, 0, even(), in(" id=1/0/1/1", " members=0/1/1,1/1/1"), "0 adopt 0 7 id=1/0/1/1") // it did not boot, and is no member
	wantAnswers(t, 0, even(), in("", " members=0/1/1,1/1/1"), "0 adopt 0 7")                       // the zero ID is a view's here
	wantAnswers(t, 21, even(), in("", " members=0/1/1,1/1/1"), "0 adopt 0 7 id=1/0/1/1")
	for _, members := range []string{"", " members=1/1/1,0/1/1", " members=0/1/1,0/1/1", " members=0/1/1,1/1/1,1/1/1", " members=0/1/1,1/1/1,2/1/1", " members=2/1/1", " members=0/1/1,16/1/1", " members=1/1/1"} {
		wantAnswers(t, 21, even(), in(" id=1/0/1/1", members), "0 adopt 0 7 id=1/0/1/1")
		wantAnswers(t, 21, even(), in("", members), "0 adopt 0 7")
	}
	wantAnswers(t, 0, even(), in(" id=9/9/9/9", " members=0/0/0,1/0/0"), "0 adopt 0 7 id=9/9/9/9")
	negative := api.Mark{Kind: api.MarkInstall, Members: []api.Member{{Pid: -1, Inc: 1, Cid: 1}, {Pid: 0, Inc: 1, Cid: 1}, {Pid: 1, Inc: 1, Cid: 1}}}
	wantService(t, 21, even(), []api.Mark{negative}, api.Mark{Kind: api.MarkAdopt})
	later := behind(in(" id=5/0/1/1", " members=0/1/1,1/1/1"), mark(t, "0 install 0 7 id=4/0/1/1 members=0/1/1")) // its epoch need not rise
	wantAnswers(t, 0, even(), later, "0 adopt 0 7 id=4/0/1/1")
	wantAnswers(t, 21, even(), later, "0 adopt 0 7 id=5/0/1/1")
	wantAnswers(t, 21, even(), behind(later, mark(t, "0 install 0 7 id=4/0/1/1 members=1/1/1")), "0 adopt 0 7 id=4/0/1/1")
}

// TestAdoptOnce: rule 21: once in a view; boots, crashes and installs as 17.4 takes them.
func TestAdoptOnce(t *testing.T) {
	past := served(t)
	wantAnswers(t, 21, even(), past, "6 adopt 0 1 id=2/0/1/2", "6 adopt 1 1 id=2/0/1/2", "6 adopt 0 1 id=2/0/1/2 n=9")
	next := behind(past, mark(t, "7 install 0 1 id=3/0/1/3 members=0/1/3 trans=0"))
	wantAnswers(t, 0, even(), next, "7 adopt 0 1 id=3/0/1/3")
	wantAnswers(t, 21, even(), next, "7 adopt 0 1 id=2/0/1/2", "7 adopt 1 1 id=2/0/1/2")
	wantAnswers(t, 21, even(), behind(next, mark(t, "7 adopt 0 1 id=3/0/1/3")), "7 adopt 0 1 id=3/0/1/3")
	crashed := behind(marks(t, pair), mark(t, "6 crash 0 1"))
	wantAnswers(t, 0, even(), crashed, "6 adopt 0 1 id=2/0/1/2") // whether it is up is not asked
	wantAnswers(t, 0, even(), behind(marks(t, pair), mark(t, "6 halt 0 1")), "6 adopt 0 1 id=2/0/1/2")
	anew := behind(past, mark(t, "6 boot 0 1"))
	wantAnswers(t, 21, even(), anew, "6 adopt 0 1 id=2/0/1/2", "6 adopt 0 1")
	wantAnswers(t, 0, even(), behind(anew, mark(t, "6 install 0 1 id=2/0/1/2 members=0/1/2,1/1/2")), "6 adopt 0 1 id=2/0/1/2")
	wantAnswers(t, 0, even(), behind(past, mark(t, "6 install 0 1 id=2/0/1/2 members=0/1/2,1/1/2")), "6 adopt 0 1 id=2/0/1/2") // installed again
}

// TestTaken: rule 22: what a node takes, and when.
func TestTaken(t *testing.T) {
	past := served(t)
	wantAnswers(t, 0, even(), past, "6 do 0 1"+set1, "6 do 1 1"+get1)
	wantAnswers(t, 22, even(), past, "6 do 0 1", "6 do 1 1"+set1, "6 do 0 1"+get1, "6 do 0 2"+set1, "6 do 0 1"+get2,
		`6 do 0 1 cmd=0/1/0/1/"a"/"x"/""`, `6 do 0 1 cmd=0/2/1/1/"a"/"x"/""`, `6 do 0 1 cmd=1/1/1/1/"a"/"x"/""`)
	wantAnswers(t, 22, even(), marks(t, pair), "6 do 0 1"+set1) // not adopted yet
	wantAnswers(t, 22, even(), marks(t, "0 boot 0 1\n"), "6 do 0 1"+set1)
	wantAnswers(t, 22, even(), nil, "6 do 0 1"+set1)
	one := behind(marks(t, pair), mark(t, "6 adopt 1 1 id=2/0/1/2"))
	wantAnswers(t, 22, even(), one, "6 do 0 1"+set1) // the other one has
	wantAnswers(t, 0, even(), one, "6 do 1 1"+get1)
	moved := behind(past, mark(t, "7 install 0 1 id=3/0/1/3 members=0/1/3 trans=0"))
	wantAnswers(t, 22, even(), moved, "7 do 0 1"+set1)
	wantAnswers(t, 0, even(), behind(moved, mark(t, "7 adopt 0 1 id=3/0/1/3")), "7 do 0 1"+set1)
	wantAnswers(t, 0, even(), behind(past, mark(t, "6 crash 0 1")), "6 do 0 1"+set1)
	wantAnswers(t, 22, even(), behind(past, mark(t, "6 boot 0 1")), "6 do 0 1"+set1)
	m := mark(t, "6 do 0 1"+set1)
	for _, n := range append(far(), 0, 2, 3) {
		wantService(t, 22, even(), past, with(m, func(m *api.Mark) { m.Cmd.Req = n }))
		wantService(t, 22, even(), past, with(m, func(m *api.Mark) { m.Cmd.Inc = n }))
	}
	for _, n := range append(far(), 1, 2, 15, 16) {
		wantService(t, 22, even(), past, with(m, func(m *api.Mark) { m.Cmd.Client = n }))
	}
}

// TestTakenValid: rule 22: a command that is none is not taken.
func TestTakenValid(t *testing.T) {
	past := served(t)
	seen := [2]int{}
	for op := -1; op < 12; op++ {
		for _, x := range []api.Command{{Key: "a"}, {Key: "a", Val: "1"}, {Key: "a", Val: "x"}, {Key: "a", Val: "x", Old: "y"}, {Val: "1"}, {}, {Key: "123456789"}, {Key: "a", Val: "123456789"}, {Key: "\xff", Val: "-7"}} {
			x.Client, x.Inc, x.Req, x.Op = 1, 1, 1, op
			rule := 22
			if machine.CheckCommand(x) == api.OK {
				rule = 0
			}
			seen[min(rule, 1)]++
			wantService(t, rule, even(), past, api.Mark{At: 9, Kind: api.MarkDo, Node: 1, Inc: 1, Cmd: x})
		}
	}
	if seen[0] < 15 || seen[1] < 50 {
		t.Errorf("%v: the test is too weak", seen)
	}
	zero := marks(t, lines("0 install 0 0 id=1/0/1/1 members=0/1/1", "0 adopt 0 0 id=1/0/1/1"))
	wantAnswers(t, 22, even(), zero, `0 do 0 0 cmd=0/0/1/2/"a"/""/""`) // an incarnation 0 has no valid commands
	wide := []api.Mark{{Kind: api.MarkInstall, Inc: math.MaxInt, Members: []api.Member{{Pid: 0}}}, {Kind: api.MarkAdopt, Inc: math.MaxInt}}
	wantService(t, 22, even(), wide, api.Mark{Kind: api.MarkDo, Inc: math.MaxInt, Cmd: api.Command{Inc: math.MaxInt, Req: 1, Op: api.OpGet, Key: "a"}})
}

// TestPending: rule 22: one command at a time, numbered one behind the other.
func TestPending(t *testing.T) {
	asked := served(t, "6 do 0 1"+set1)
	wantAnswers(t, 22, even(), asked, "6 do 0 1"+get2, "6 do 0 1"+set1)
	wantAnswers(t, 0, even(), asked, "6 do 1 1"+get1) // of another one
	done := behind(asked, mark(t, "6 apply 0 1 n=1"+set1+new1))
	wantAnswers(t, 22, even(), done, "6 do 0 1"+get2)
	answered := behind(done, mark(t, "6 reply 0 1"+set1+new1))
	wantAnswers(t, 0, even(), answered, "6 do 0 1"+get2)
	wantAnswers(t, 22, even(), answered, "6 do 0 1"+set1, `6 do 0 1 cmd=0/1/3/2/"a"/""/""`)
	views := behind(asked, marks(t, lines("7 install 0 1 id=3/0/1/3 members=0/1/3 trans=0", "7 adopt 0 1 id=3/0/1/3 n=1"))...)
	wantAnswers(t, 22, even(), views, "7 do 0 1"+get2) // a next view does not answer it
	wantAnswers(t, 22, even(), behind(asked, mark(t, "7 crash 0 1")), "7 do 0 1"+get2)
	anew := behind(asked, marks(t, lines("7 boot 0 1", "7 install 0 1 id=3/0/1/3 members=0/1/3 trans=0", "7 adopt 0 1 id=3/0/1/3 n=1"))...)
	wantAnswers(t, 0, even(), anew, "7 do 0 1"+set1, `7 do 0 1 cmd=0/1/1/2/"b"/""/""`) // a boot begins it anew
	wantAnswers(t, 22, even(), anew, "7 do 0 1"+get2)
}

// TestIndexes: rule 23: indexes rise, without a gap but behind an adoption.
func TestIndexes(t *testing.T) {
	asked := served(t, "6 do 0 1"+set1, "6 do 1 1"+get1)
	apply := func(n int) api.Mark {
		return with(mark(t, "6 apply 0 1"+set1+new1), func(m *api.Mark) { m.N = n })
	}
	for _, n := range []int{1, 2, 77, api.MaxCount} {
		wantService(t, 0, even(), asked, with(apply(n), func(m *api.Mark) { m.Node = 1 }))
		wantService(t, 0, even(), asked, apply(n)) // the first one of an incarnation may have any index
	}
	for _, n := range append(far(), 0) {
		wantService(t, 23, even(), asked, apply(n))
	}
	past := behind(asked, apply(7))
	wantAnswers(t, 0, even(), past, "6 apply 0 1 n=8"+get1+no1, "6 apply 1 1 n=7"+set1+new1, "6 apply 1 1 n=3"+get1+no1)
	wantAnswers(t, 23, even(), past, "6 apply 0 1 n=7"+set1+new1, "6 apply 0 1 n=6"+get1+no1, "6 apply 0 1 n=9"+get1+no1, "6 apply 0 1 n=1"+get1+no1, "6 apply 0 1"+get1+no1)
	adopted := behind(past, marks(t, lines("7 install 0 1 id=3/0/1/3 members=0/1/3 trans=0", "7 adopt 0 1 id=3/0/1/3 n=99"))...)
	wantAnswers(t, 0, even(), adopted, "7 apply 0 1 n=8"+get1+no1, "7 apply 0 1 n=9"+get1+no1, "7 apply 0 1 n=50"+get1+no1)
	wantAnswers(t, 23, even(), adopted, "7 apply 0 1 n=7"+set1+new1, "7 apply 0 1 n=6"+get1+no1)
	wantAnswers(t, 23, even(), adopted[:len(adopted)-1], "7 apply 0 1 n=9"+get1+no1) // an install alone is no adoption
	wantAnswers(t, 23, even(), behind(adopted, mark(t, "7 apply 0 1 n=9"+get1+no1)), "7 apply 0 1 n=11"+set1+new1, "7 apply 0 1 n=9"+get1+no1)
	wantAnswers(t, 23, even(), behind(past, mark(t, "7 crash 0 1")), "7 apply 0 1 n=9"+get1+no1)
	anew := behind(past, mark(t, "7 boot 0 1"))
	wantAnswers(t, 0, even(), anew, "7 apply 0 1 n=7"+set1+new1, "7 apply 0 1 n=2"+get1+no1, "7 apply 0 1 n=20"+get1+no1)
	last := behind(asked, apply(api.MaxCount))
	wantService(t, 23, even(), last, with(mark(t, "6 apply 0 1"+get1+no1), func(m *api.Mark) { m.N = api.MaxCount + 1 }))
}

// TestOneLog: rule 24: one command and one result an index, over all incarnations.
func TestOneLog(t *testing.T) {
	done := served(t, "6 do 0 1"+set1, "6 do 1 1"+get1, "6 apply 0 1 n=1"+set1+new1, "6 apply 0 1 n=2"+get1+has1)
	for _, past := range [][]api.Mark{done, behind(done, mark(t, "6 crash 0 1")), behind(done, mark(t, "6 boot 0 1")), behind(done, mark(t, "6 apply 1 2 n=1"+set1+new1))} {
		wantAnswers(t, 0, even(), past, "6 apply 1 1 n=1"+set1+new1, "6 apply 1 1 n=2"+get1+has1, "6 apply 1 3 n=1"+set1+new1, "6 apply 0 3 n=1"+set1+new1)
		wantAnswers(t, 24, even(), past, "6 apply 1 1 n=1"+set1+has1, "6 apply 1 1 n=1"+get1+has1, "6 apply 1 1 n=1"+get1+new1, "6 apply 1 1 n=2"+set1+new1, "6 apply 1 1 n=1"+set1, "6 apply 1 1 n=1", "6 apply 1 3 n=2"+get1+new1,
			"6 apply 1 1 n=1"+set1+` result=2/""/0`, "6 apply 1 1 n=1"+set1+` result=1/"y"/0`, "6 apply 1 1 n=1"+set1+` result=1/""/-1`,
			`6 apply 1 1 n=1 cmd=0/1/1/1/"a"/"y"/""`+new1, `6 apply 1 1 n=1 cmd=0/1/1/1/"b"/"x"/""`+new1, `6 apply 1 1 n=1 cmd=0/1/1/1/"a"/"x"/"y"`+new1, `6 apply 1 1 n=1 cmd=0/1/2/1/"a"/"x"/""`+new1, `6 apply 1 1 n=1 cmd=0/2/1/1/"a"/"x"/""`+new1)
	}
	gap := served(t, "6 do 0 1"+set1, "6 do 1 1"+get1, "6 apply 0 1 n=5"+set1+has1) // nothing is known of its result yet
	wantAnswers(t, 24, even(), gap, "6 apply 1 1 n=5"+set1+new1)
	wantAnswers(t, 0, even(), gap, "6 apply 1 1 n=5"+set1+has1)
}

// TestAskedFor: rule 25: what is done was asked for, just so, and has one index.
func TestAskedFor(t *testing.T) {
	asked := served(t, "6 do 0 1"+set1)
	for _, past := range [][]api.Mark{asked, behind(asked, mark(t, "6 crash 0 1")), behind(asked, mark(t, "6 boot 0 1")), behind(asked, mark(t, "6 boot 0 2"))} {
		wantAnswers(t, 0, even(), past, "6 apply 0 1 n=1"+set1+new1, "6 apply 1 1 n=1"+set1+new1, "6 apply 1 1 n=4"+set1+new1, "6 apply 0 2 n=1"+set1+new1)
		wantAnswers(t, 25, even(), past, "6 apply 0 1 n=1"+get1+no1, "6 apply 0 1 n=1", "6 apply 0 1 n=1"+get2+no1, `6 apply 0 1 n=1 cmd=0/1/1/1/"a"/"y"/""`+new1, `6 apply 0 1 n=1 cmd=0/1/1/1/"b"/"x"/""`+new1,
			`6 apply 0 1 n=1 cmd=0/1/1/1/"a"/"x"/"z"`+new1, `6 apply 0 1 n=1 cmd=0/2/1/1/"a"/"x"/""`+new1, `6 apply 0 1 n=1 cmd=1/1/1/1/"a"/"x"/""`+new1, `6 apply 0 1 n=1 cmd=0/1/1/2/"a"/"x"/""`+new1)
	}
	done := behind(asked, mark(t, "6 apply 0 1 n=3"+set1+new1))
	wantAnswers(t, 25, even(), done, "6 apply 0 1 n=4"+set1+new1, "6 apply 1 1 n=1"+set1+new1, "6 apply 1 1 n=2"+set1+new1, "6 apply 1 1 n=4"+set1+has1)
	wantAnswers(t, 0, even(), done, "6 apply 1 1 n=3"+set1+new1)
	anew := behind(done, marks(t, lines("7 boot 0 1", "7 install 0 1 id=3/0/1/3 members=0/1/3", "7 adopt 0 1 id=3/0/1/3 n=3", `7 do 0 1 cmd=0/1/1/2/"b"/""/""`))...)
	wantAnswers(t, 25, even(), anew, `7 apply 0 1 n=4 cmd=0/1/1/2/"b"/""/""`+no1, `7 apply 1 1 n=1 cmd=0/1/1/2/"b"/""/""`+no1) // asked for, but the request has its index
	other := behind(asked, marks(t, lines("7 boot 0 1", "7 install 0 1 id=3/0/1/3 members=0/1/3", "7 adopt 0 1 id=3/0/1/3", `7 do 0 1 cmd=0/1/1/2/"b"/""/""`))...)
	wantAnswers(t, 0, even(), other, `7 apply 0 1 n=4 cmd=0/1/1/2/"b"/""/""`+no1, "7 apply 0 1 n=4"+set1+new1) // either of the two
}

// TestKept: rule 26: an adopted log lacks nothing that was done in views of lower epochs.
func TestKept(t *testing.T) {
	done := served(t, "6 do 0 1"+set1, "6 do 1 1"+get1, "6 apply 0 1 n=1"+set1+new1, "6 apply 0 1 n=2"+get1+has1)
	in := func(past []api.Mark, epoch int) []api.Mark {
		return behind(past, mark(t, fmt.Sprintf("7 install 1 1 id=%d/0/1/2 members=0/1/2,1/1/2", epoch)))
	}
	adopt := func(epoch, n int) string {
		return fmt.Sprintf("7 adopt 1 1 id=%d/0/1/2", epoch) + []string{"", " n=1", " n=2", " n=3"}[n]
	}
	for _, epoch := range []int{3, 4, 1 << 40} {
		wantAnswers(t, 26, even(), in(done, epoch), adopt(epoch, 0), adopt(epoch, 1))
		wantAnswers(t, 0, even(), in(done, epoch), adopt(epoch, 2), adopt(epoch, 3))
	}
	for _, epoch := range []int{2, 1} {
		wantAnswers(t, 0, even(), in(done, epoch), adopt(epoch, 0), adopt(epoch, 1), adopt(epoch, 2)) // not below
	}
	wantAnswers(t, 21, even(), in(done, 3), "7 adopt 1 1 id=3/0/1/2 pos=1") // 26 too
	crashed := behind(done, marks(t, lines("7 crash 0 1", "7 boot 0 1"))...)
	wantAnswers(t, 26, even(), in(crashed, 3), adopt(3, 1)) // what was done stays done
	replayed := served(t, "6 do 0 1"+set1, "6 boot 0 1", "6 apply 0 1 n=1"+set1+new1)
	wantAnswers(t, 0, even(), in(replayed, 9), adopt(9, 0)) // done in no view
	wantAnswers(t, 26, even(), in(behind(replayed, mark(t, "6 apply 1 1 n=1"+set1+new1)), 9), adopt(9, 0))
}

// TestKeptOfAll: rule 26: over views of many epochs, rising or not, of which some did more than later ones.
func TestKeptOfAll(t *testing.T) {
	text := []string{}
	command := func(k int) string { return fmt.Sprintf(` cmd=0/%d/1/2/"k"/""/""`, k) }
	for k := 1; k <= 12; k++ { // each incarnation asks for one
		text = append(text, fmt.Sprintf("7 install 0 %d id=1/0/1/1 members=0/1/1", k), fmt.Sprintf("7 adopt 0 %d id=1/0/1/1", k), fmt.Sprintf("7 do 0 %d", k)+command(k))
	}
	past := marks(t, lines(text...))
	for k, x := range []struct{ epoch, index int }{{20, 5}, {30, 5}, {10, 4}, {10, 3}, {25, 7}, {40, 6}, {15, 1}, {22, 9}, {20, 10}, {50, 11}, {0, 2}, {30, 12}} {
		inc := 100 + k
		past = behind(past, marks(t, lines(fmt.Sprintf("8 install 1 %d id=%d/0/1/1 members=0/1/1", inc, x.epoch)))...)
		if x.epoch == 0 {
			past[len(past)-1].ID = api.ViewID{} // the zero ID is a view's too, with the epoch 0
		}
		past = behind(past, mark(t, fmt.Sprintf("8 apply 1 %d n=%d", inc, x.index)+command(x.index)+no1))
		for epoch := 0; epoch <= 60; epoch += 5 {
			least := 0
			for _, m := range past {
				if m.Kind == api.MarkApply && epochOf(past, m) < epoch {
					least = max(least, m.N)
				}
			}
			in := api.Mark{At: 9, Kind: api.MarkInstall, Node: 1, Inc: 1, ID: api.ViewID{Epoch: epoch}, Members: []api.Member{{Pid: 0}}}
			adopt := api.Mark{At: 9, Kind: api.MarkAdopt, Node: 1, Inc: 1, ID: api.ViewID{Epoch: epoch}, N: least}
			wantService(t, 0, even(), behind(past, in), adopt)
			if least > 0 {
				wantService(t, 26, even(), behind(past, in), with(adopt, func(m *api.Mark) { m.N-- }))
			}
		}
	}
}

// epochOf is that of the only view that the maker of a mark installed.
func epochOf(past []api.Mark, m api.Mark) int {
	k := slices.IndexFunc(past, func(x api.Mark) bool {
		return x.Kind == api.MarkInstall && x.Node == m.Node && x.Inc == m.Inc
	})
	return past[k].ID.Epoch
}

// TestKeptFar: rule 26: epochs of all numbers.
func TestKeptFar(t *testing.T) {
	asked := served(t, "6 do 0 1"+set1)
	epochs := []int{math.MinInt, -5, -1, 0, 1, 5, api.MaxCount, math.MaxInt}
	for i, low := range epochs {
		past := behind(asked, api.Mark{Kind: api.MarkInstall, Node: 1, Inc: 4, ID: api.ViewID{Epoch: low}}, api.Mark{Kind: api.MarkApply, Node: 1, Inc: 4, N: 1, Cmd: asked[len(asked)-1].Cmd, Result: api.Result{Code: api.ResDone}})
		for k, high := range epochs {
			in := behind(past, api.Mark{Kind: api.MarkInstall, Node: 1, Inc: 5, ID: api.ViewID{Epoch: high}, Members: []api.Member{{Pid: 0}}})
			rule := 0
			if i < k {
				rule = 26
			}
			wantService(t, rule, even(), in, api.Mark{Kind: api.MarkAdopt, Node: 1, Inc: 5, ID: api.ViewID{Epoch: high}})
			wantService(t, 0, even(), in, api.Mark{Kind: api.MarkAdopt, Node: 1, Inc: 5, ID: api.ViewID{Epoch: high}, N: 1})
		}
	}
}

// TestSerial: rule 27: each entry has the result that it has in the one order.
func TestSerial(t *testing.T) {
	asked := served(t, "6 do 0 1"+set1, "6 do 1 1"+get1)
	wantAnswers(t, 0, even(), asked, "6 apply 0 1 n=1"+set1+new1, "6 apply 1 1 n=1"+get1+no1)
	wantAnswers(t, 27, even(), asked, "6 apply 0 1 n=1"+set1+has1, "6 apply 0 1 n=1"+set1, "6 apply 1 1 n=1"+get1+has1, "6 apply 0 1 n=1"+set1+` result=1/""/-1`, "6 apply 0 1 n=1"+set1+` result=10/""/0`)
	done := behind(asked, mark(t, "6 apply 0 1 n=1"+set1+new1))
	wantAnswers(t, 0, even(), done, "6 apply 0 1 n=2"+get1+has1)
	wantAnswers(t, 27, even(), done, "6 apply 0 1 n=2"+get1+no1, "6 apply 0 1 n=2"+get1+` result=1/"y"/1`, "6 apply 1 1 n=2"+get1+` result=1/"x"/0`)
	wantAnswers(t, 0, even(), asked, "6 apply 0 1 n=2"+set1+has1, "6 apply 0 1 n=3"+set1) // behind a gap: not known yet
}

// TestSerialGap: rule 27: what was not known behind a gap is known when the gap is filled.
func TestSerialGap(t *testing.T) {
	asked := served(t, "6 do 0 1"+set1, "6 do 1 1"+get1)
	right := behind(asked, mark(t, "6 apply 1 1 n=2"+get1+has1))
	wantAnswers(t, 0, even(), right, "6 apply 0 1 n=1"+set1+new1)
	wantAnswers(t, 27, even(), right, "6 apply 0 1 n=1"+set1+has1)
	wrong := behind(asked, mark(t, "6 apply 1 1 n=2"+get1+no1))
	wantAnswers(t, 27, even(), wrong, "6 apply 0 1 n=1"+set1+new1)
	wantAnswers(t, 0, even(), wrong, "6 apply 1 1 n=3"+set1+new1, "6 apply 0 1 n=3"+set1+has1)
	far := behind(asked, mark(t, "6 apply 1 1 n=3"+get1+no1))
	wantAnswers(t, 0, even(), far, "6 apply 0 1 n=1"+set1+new1) // a gap is left
}

// TestAnswered: rule 28: what is answered is pending, and was done with just this result.
func TestAnswered(t *testing.T) {
	asked := served(t, "6 do 0 1"+set1, "6 do 1 1"+get1)
	wantAnswers(t, 28, even(), asked, "6 reply 0 1"+set1+new1, "6 reply 0 1"+set1, "6 reply 0 1") // not done yet
	done := behind(asked, mark(t, "6 apply 1 1 n=1"+set1+new1))
	for _, past := range [][]api.Mark{done, behind(done, mark(t, "6 crash 0 1")), behind(done, mark(t, "6 install 0 1")), behind(done, mark(t, "6 boot 1 1"))} {
		wantAnswers(t, 0, even(), past, "6 reply 0 1"+set1+new1)
		wantAnswers(t, 28, even(), past, "6 reply 0 1"+set1, "6 reply 0 1"+set1+has1, "6 reply 0 1"+set1+` result=1/""/1`, "6 reply 0 1"+set1+` result=2/""/0`, "6 reply 0 1"+get1+no1, "6 reply 0 1", "6 reply 0 1"+new1,
			"6 reply 1 1"+set1+new1, "6 reply 1 1"+get1+no1, "6 reply 1 1", "6 reply 0 2"+set1+new1, "6 reply 0 0"+set1+new1, `6 reply 0 1 cmd=0/1/1/1/"a"/"y"/""`+new1, `6 reply 0 1 cmd=0/1/1/1/"b"/"x"/""`+new1,
			`6 reply 0 1 cmd=0/1/2/1/"a"/"x"/""`+new1, `6 reply 0 1 cmd=0/2/1/1/"a"/"x"/""`+new1, `6 reply 0 1 cmd=0/1/1/1/"a"/"x"/"y"`+new1)
	}
	answered := behind(done, mark(t, "6 reply 0 1"+set1+new1))
	wantAnswers(t, 28, even(), answered, "6 reply 0 1"+set1+new1, "6 reply 0 1")
	wantAnswers(t, 28, even(), behind(done, mark(t, "6 boot 0 1")), "6 reply 0 1"+set1+new1) // a boot has nothing pending
	wantAnswers(t, 28, even(), behind(answered, mark(t, "6 do 0 1"+get2)), "6 reply 0 1"+set1+new1, "6 reply 0 1"+get2+has1)
	wantAnswers(t, 0, even(), behind(answered, marks(t, lines("6 do 0 1"+get2, "6 apply 0 1 n=2"+get2+has1))...), "6 reply 0 1"+get2+has1)
	other := behind(done, marks(t, lines("7 boot 0 1", "7 install 0 1 id=3/0/1/3 members=0/1/3", "7 adopt 0 1 id=3/0/1/3 n=1", `7 do 0 1 cmd=0/1/1/2/"b"/""/""`))...)
	wantAnswers(t, 28, even(), other, `7 reply 0 1 cmd=0/1/1/2/"b"/""/""`+no1, `7 reply 0 1 cmd=0/1/1/2/"b"/""/""`+new1, "7 reply 0 1"+set1+new1) // the request was done as another command
	again := behind(done, marks(t, lines("7 boot 0 1", "7 install 0 1 id=3/0/1/3 members=0/1/3", "7 adopt 0 1 id=3/0/1/3 n=1", "7 do 0 1"+set1))...)
	wantAnswers(t, 0, even(), again, "7 reply 0 1"+set1+new1)
}

// TestNoGap: rule 29: what is answered stands behind entries that are all known.
func TestNoGap(t *testing.T) {
	asked := served(t, "6 do 0 1"+set1, "6 do 1 1"+get1)
	gap := behind(asked, mark(t, "6 apply 0 1 n=2"+set1+new1))
	wantAnswers(t, 29, even(), gap, "6 reply 0 1"+set1+new1)
	wantAnswers(t, 28, even(), gap, "6 reply 0 1"+set1+has1)
	filled := behind(gap, mark(t, "6 apply 1 1 n=1"+get1+no1))
	wantAnswers(t, 0, even(), filled, "6 reply 0 1"+set1+new1, "6 reply 1 1"+get1+no1)
	wider := behind(asked, marks(t, lines("6 apply 0 1 n=3"+set1+new1, "6 apply 1 1 n=1"+get1+no1))...)
	wantAnswers(t, 29, even(), wider, "6 reply 0 1"+set1+new1)
	wantAnswers(t, 0, even(), wider, "6 reply 1 1"+get1+no1)
	most := behind(asked, mark(t, "6 apply 0 1 n=4611686018427387904"+set1+new1))
	wantAnswers(t, 29, even(), most, "6 reply 0 1"+set1+new1)
}

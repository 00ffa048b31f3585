package world_test

import (
	"slices"
	"strings"
	"testing"

	"quorate/api"
)

// What the chapter's examples tell, one behind the other.
const (
	boot  = "0 boot 0 1\n"
	state = `"\x01\x01\x00\x00\x0bQS\x01\x00\x00\x00\x00\x94n\xb4\xaf\x00"`

	first = "1 round 0 0 n=1\n" +
		"1 install 0 1 id=1/0/1/1 members=0/1/1 trans=0\n" +
		"1 send 0 1 id=1/0/1/1 seq=1 body=" + state + "\n"

	second = "2 round 0 0 n=2\n" +
		"2 deliver 0 1 id=1/0/1/1 seq=1 pos=1 body=" + state + "\n" +
		"2 adopt 0 1 id=1/0/1/1\n" +
		"2 safe 0 1 id=1/0/1/1 pos=1\n"

	set  = `cmd=0/1/1/1/"k"/"v"/""`
	blob = `body="\x01\x02\x00\x00\x01\x01\x01\x01k\x01v\x00"`

	third = "3 do 0 1 " + set + "\n" +
		"3 send 0 1 id=1/0/1/1 seq=2 " + blob + "\n"

	fourth = "4 round 0 0 n=3\n" +
		"4 deliver 0 1 id=1/0/1/1 seq=2 pos=2 " + blob + "\n" +
		"4 safe 0 1 id=1/0/1/1 pos=2\n" +
		"4 apply 0 1 n=1 " + set + " result=1/\"\"/0\n" +
		"4 reply 0 1 " + set + " result=1/\"\"/0\n"
)

// asking is the script of example 4, up to its command.
const asking = one + "round\nround\ndo 0 set \"k\" \"v\"\n"

func TestExamples(t *testing.T) {
	wantRun(t, "example 1", one, head+boot)
	wantRun(t, "example 2", one+rounds(1), head+boot+first)
	wantRun(t, "example 3", one+rounds(2), head+boot+first+second)
	wantRun(t, "example 4", asking+"round\n", head+boot+first+second+third+fourth)
	wantRun(t, "example 5", one+lines(`send 0 "x"`, `do 0 get "k"`, `do 0 get ""`),
		head+boot+lines("1 refuse 0 1 err=100", `2 refuse 0 1 cmd=0/0/0/2/"k"/""/"" err=140`, `3 refuse 0 1 cmd=0/0/0/2/""/""/"" err=130`))
	wantRun(t, "example 10", strings.Replace(one, "floor 0", "floor 4611686018427387904", 1)+lines("round", "restart 0"), head+"1 round 0 0 n=1\n")
	wantRun(t, "example 10", one+lines("tick 1", "restart 0", "cut 0 0", "drop 0", "now 3", "hold 0 1", "bla"), head+boot)
}

// TestExamplesOfDisks: what a disk keeps.
func TestExamplesOfDisks(t *testing.T) {
	so := head + boot + first + second + third
	wantRun(t, "example 6", asking+lines("round", "crash 0", "restart 0", "round"), so+fourth+lines(
		"5 crash 0 1",
		"6 boot 0 2",
		"6 apply 0 2 n=1 "+set+` result=1/""/0`,
		"7 round 0 0 n=4",
		"7 install 0 2 id=2/0/2/2 members=0/2/2 trans=0",
		`7 send 0 2 id=2/0/2/2 seq=1 body="\x01\x01\x01\x01\x15QS\x01\x00\x01\x01k\x01v\x00\x01\x00\x01\x01\x01\x00\x00\xa8\x1b\xe0'\x00"`))
	wantRun(t, "example 7", asking+lines("tear 0 0", "restart 0"), so+lines("4 crash 0 1", "5 boot 0 2"))
	wantRun(t, "example 7", asking+lines("tear 0 100000", "restart 0"), so+lines("4 crash 0 1", "5 boot 0 2", "5 apply 0 2 n=1 "+set+` result=1/""/0`))
}

// linesOf are a trace's lines with these words behind the event's number.
func linesOf(trace string, words ...string) []string {
	return slices.DeleteFunc(strings.Split(trace, "\n"), func(line string) bool {
		_, rest, _ := strings.Cut(line, " ")
		kind, _, _ := strings.Cut(rest, " ")
		return !slices.Contains(words, kind)
	})
}

func TestExamplesOfTwo(t *testing.T) {
	want := []string{
		"1 install 0 1 id=1/0/1/1 members=0/1/1 trans=0",
		"1 install 1 1 id=1/1/1/1 members=1/1/1 trans=1",
		"3 block 0 1 id=1/0/1/1",
		"3 block 1 1 id=1/1/1/1",
		"5 install 1 1 id=2/0/1/2 members=0/1/2,1/1/2 trans=1",
		"5 install 0 1 id=2/0/1/2 members=0/1/2,1/1/2 trans=0",
	}
	if got := linesOf(run(t, two+rounds(5)), "block", "install"); !slices.Equal(got, want) {
		t.Errorf("example 8:\n%s\nwant\n%s", strings.Join(got, "\n"), strings.Join(want, "\n"))
	}
	full := strings.Replace(two, "room 100", "room 1", 1)
	if got := linesOf(run(t, full+rounds(1)), "full"); !slices.Equal(got, []string{"1 full 1 1"}) {
		t.Errorf("example 9: %q", got)
	}
	l := of(played(t, scriptOf(with(config(2), func(c *api.Config) { c.Room = 1 }), "round\n")), api.MarkFull)
	if len(l) != 1 || !sameMark(l[0], api.Mark{At: 1, Kind: api.MarkFull, Node: 1, Inc: 1, N: 0}) {
		t.Errorf("example 9: %+v", l)
	}
}

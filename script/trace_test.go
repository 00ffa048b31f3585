package script_test

import (
	"math/rand"
	"strings"
	"testing"

	"quorate/api"
	"quorate/script"
)

const traceHeader = "quorate trace 1\n"

type markSample struct {
	line string
	mark api.Mark
}

func markSamples() []markSample {
	id := api.ViewID{Epoch: 3, Lead: 0, Inc: 1, Cid: 2}
	return []markSample{
		{`0 boot 2 1`, api.Mark{Kind: api.MarkBoot, Node: 2, Inc: 1}},
		{bigest + ` crash ` + bigest + ` ` + bigest, api.Mark{At: big, Kind: api.MarkCrash, Node: big, Inc: big}},
		{`1 halt 0 0 err=3`, api.Mark{At: 1, Kind: api.MarkHalt, Err: api.ErrSpent}},
		{`2 send 1 1 seq=7`, api.Mark{At: 2, Kind: api.MarkSend, Node: 1, Inc: 1, Seq: 7}},
		{`21 refuse 1 1 err=100`, api.Mark{At: 21, Kind: api.MarkRefuse, Node: 1, Inc: 1, Err: 100}},
		{`21 refuse 1 1 err=999`, api.Mark{At: 21, Kind: api.MarkRefuse, Node: 1, Inc: 1, Err: 999}},
		{`3 block 1 1`, api.Mark{At: 3, Kind: api.MarkBlock, Node: 1, Inc: 1}},
		{`14 install 0 1 id=3/0/1/2 members=0/1/2,2/1/2 trans=0`, api.Mark{At: 14, Kind: api.MarkInstall, Inc: 1, ID: id, Members: []api.Member{{Pid: 0, Inc: 1, Cid: 2}, {Pid: 2, Inc: 1, Cid: 2}}, Trans: []int{0}}},
		{`14 deliver 2 1 id=3/0/1/2 seq=1 pos=1 body="\x00a\""`, api.Mark{At: 14, Kind: api.MarkDeliver, Node: 2, Inc: 1, ID: id, Seq: 1, Pos: 1, Body: []byte("\x00a\"")}},
		{`15 safe 2 1 pos=4`, api.Mark{At: 15, Kind: api.MarkSafe, Node: 2, Inc: 1, Pos: 4}},
		{`15 adopt 2 1 n=9`, api.Mark{At: 15, Kind: api.MarkAdopt, Node: 2, Inc: 1, N: 9}},
		{`16 do 2 1 sender=5`, api.Mark{At: 16, Kind: api.MarkDo, Node: 2, Inc: 1, Sender: 5}},
		{`17 apply 0 1 members=0/0/0 trans=0,0`, api.Mark{At: 17, Kind: api.MarkApply, Inc: 1, Members: []api.Member{{}}, Trans: []int{0, 0}}},
		{`20 reply 1 1 cmd=1/1/3/5/"n"/"-7"/"" result=1/"-2"/1`, api.Mark{At: 20, Kind: api.MarkReply, Node: 1, Inc: 1, Cmd: api.Command{Client: 1, Inc: 1, Req: 3, Op: 5, Key: "n", Val: "-7"}, Result: api.Result{Code: 1, Val: "-2", N: 1}}},
		{`5 reply 0 1 result=0/""/-3`, api.Mark{At: 5, Kind: api.MarkReply, Inc: 1, Result: api.Result{N: -3}}},
		{`5 reply 0 1 result=0/""/-` + bigest, api.Mark{At: 5, Kind: api.MarkReply, Inc: 1, Result: api.Result{N: -big}}},
		{`5 reply 0 1 result=` + bigest + `/" id=1/\\"/` + bigest, api.Mark{At: 5, Kind: api.MarkReply, Inc: 1, Result: api.Result{Code: big, Val: ` id=1/\`, N: big}}},
		{`5 full 0 1 cmd=0/0/0/0/""/""/"\x7f"`, api.Mark{At: 5, Kind: api.MarkFull, Inc: 1, Cmd: api.Command{Old: "\x7f"}}},
		{`6 round 0 0`, api.Mark{At: 6, Kind: api.MarkRound}},
		{`7 leave 1 2`, api.Mark{At: 7, Kind: api.MarkLeave, Node: 1, Inc: 2}},
		{`8 leave 1 2 id=0/0/0/1 members=0/0/1 trans=2 sender=3 seq=4 pos=5 n=6 body=" " cmd=0/0/0/1/""/""/"" result=1/""/0 err=7`, api.Mark{At: 8, Kind: api.MarkLeave, Node: 1, Inc: 2, ID: api.ViewID{Cid: 1}, Members: []api.Member{{Cid: 1}}, Trans: []int{2}, Sender: 3, Seq: 4, Pos: 5, N: 6, Body: []byte(" "), Cmd: api.Command{Op: 1}, Result: api.Result{Code: 1}, Err: 7}},
	}
}

func TestMarksBothWays(t *testing.T) {
	text, all := traceHeader, []api.Mark{}
	seen := map[int]int{}
	for _, s := range markSamples() {
		seen[s.mark.Kind]++
		one := traceHeader + s.line + "\n"
		if got, e := script.PrintTrace([]api.Mark{s.mark}); got != one || e != api.OK {
			t.Errorf("S8: %v: %q, %d, want %q", s.mark, got, e, one)
		}
		if got, n, e := script.ParseTrace(one); !sameMarks(got, []api.Mark{s.mark}) || n != 0 || e != api.OK {
			t.Errorf("S9: %q: %v, %d, %d, want %v", one, got, n, e, s.mark)
		}
		text += s.line + "\n"
		all = append(all, s.mark)
	}
	if len(seen) != 16 {
		t.Errorf("S8: samples of %d kinds, want 16", len(seen))
	}
	if got, e := script.PrintTrace(all); got != text || e != api.OK {
		t.Errorf("S8: all samples: %q, %d", got, e)
	}
	if got, n, e := script.ParseTrace(text); !sameMarks(got, all) || n != 0 || e != api.OK {
		t.Errorf("S9: all samples: %v, %d, %d", got, n, e)
	}
	if got, e := script.PrintTrace(nil); got != traceHeader || e != api.OK {
		t.Errorf("S8: no marks: %q, %d", got, e)
	}
	if got, n, e := script.ParseTrace(traceHeader); len(got) != 0 || n != 0 || e != api.OK {
		t.Errorf("S9: no marks: %v, %d, %d", got, n, e)
	}
}

func TestNoTraceHeaders(t *testing.T) {
	for _, text := range []string{"", "\n", "quorate trace 1", "quorate trace 2\n", " quorate trace 1\n", "quorate trace 1 \n", "quorate  trace 1\n", "quorate trace 1\r\n", "#\nquorate trace 1\n", "\nquorate trace 1\n", "quorate 1\n", "Quorate trace 1\n", "quorate trace 10 boot 2 1\n", "0 boot 2 1\n", "x\ny\n"} {
		if got, n, e := script.ParseTrace(text); got != nil || n != 0 || e != api.ErrHeader {
			t.Errorf("S9: ParseTrace(%q) = %v, %d, %d, want 0, ErrHeader", text, got, n, e)
		}
	}
}

func TestNoMarkLines(t *testing.T) {
	for _, line := range []string{
		"", " ", "#", "# x", "0", "0 boot", "0 boot 2", "0 boot 2 ", "boot 2 1", "0 2 1", "0 boot 2 1 ", " 0 boot 2 1", "0 boot 2 1\t", "0\tboot 2 1", "0  boot 2 1", "0 boot  2 1", "0 boot 2  1", "0 boot 2 1 1", "0 boot 2 1\r",
		"00 boot 2 1", "0 boot 02 1", "0 boot 2 01", "-1 boot 2 1", "+1 boot 2 1", "x boot 2 1", "0 boot x 1", "0 boot 2 x", "0 boot -2 1", "0 boot 2 -1", beyond + " boot 2 1", "0 boot " + beyond + " 1", "0 boot 2 " + beyond, "99999999999999999999 boot 2 1", "18446744073709551617 boot 2 1",
		"0 Boot 2 1", "0 boots 2 1", "0 noop 2 1", "0 1 2 1", "0  2 1", "0 \"boot\" 2 1", "0 tick 2 1",
		"0 boot 2 1 x=1", "0 boot 2 1 ID=1/1/1/1", "0 boot 2 1 id", "0 boot 2 1 id=", "0 boot 2 1 id=0/0/0/0", "0 boot 2 1 id=1/0/0", "0 boot 2 1 id=1/0/0/0/0", "0 boot 2 1 id=1/0/00/0", "0 boot 2 1 id=1,0,0,0", "0 boot 2 1 id=/0/0/1", "0 boot 2 1 id=1/0/0/", "0 boot 2 1 id=1/0/0/-1", "0 boot 2 1 id=1/0/0/" + beyond, "0 boot 2 1id=1/0/0/0", "0 boot 2 1  id=1/0/0/0", "0 boot 2 1 id= 1/0/0/0",
		"0 boot 2 1 members=", "0 boot 2 1 members=1", "0 boot 2 1 members=1/1", "0 boot 2 1 members=1/1/1,", "0 boot 2 1 members=,1/1/1", "0 boot 2 1 members=1/1/1,,1/1/1", "0 boot 2 1 members=1/1/1, 1/1/1", "0 boot 2 1 members=1/1/1,1/1", "0 boot 2 1 members=1/1/1/1", "0 boot 2 1 members=1/01/1", "0 boot 2 1 members=1/1/1 members=1/1/1", "0 boot 2 1 members=1/1/" + beyond,
		"0 boot 2 1 trans=", "0 boot 2 1 trans=1,", "0 boot 2 1 trans=,1", "0 boot 2 1 trans=1,,1", "0 boot 2 1 trans=1/1", "0 boot 2 1 trans=01", "0 boot 2 1 trans=-1", "0 boot 2 1 trans=" + beyond, "0 boot 2 1 trans=1 trans=1", "0 boot 2 1 trans=x",
		"0 boot 2 1 sender=0", "0 boot 2 1 seq=0", "0 boot 2 1 pos=0", "0 boot 2 1 n=0", "0 boot 2 1 sender=", "0 boot 2 1 seq=-1", "0 boot 2 1 pos=01", "0 boot 2 1 n=x", "0 boot 2 1 n=" + beyond, "0 boot 2 1 n=1 n=1", "0 boot 2 1 N=1", "0 boot 2 1 n=1,2",
		"0 boot 2 1 seq=1 sender=1", "0 boot 2 1 pos=1 seq=1", "0 boot 2 1 n=1 pos=1", "0 boot 2 1 trans=1 members=1/1/1", "0 boot 2 1 members=1/1/1 id=1/1/1/1", "0 boot 2 1 body=\"a\" n=1", "0 boot 2 1 cmd=1/1/1/1/\"\"/\"\"/\"\" body=\"a\"", "0 boot 2 1 result=1/\"\"/1 cmd=1/1/1/1/\"\"/\"\"/\"\"", "0 boot 2 1 err=1 result=1/\"\"/1", "0 boot 2 1 sender=1 trans=1", "0 boot 2 1 seq=1 seq=1",
		"0 boot 2 1 body=", "0 boot 2 1 body=\"\"", "0 boot 2 1 body=a", "0 boot 2 1 body=\"a", "0 boot 2 1 body=a\"", "0 boot 2 1 body=\"\\x61\"", "0 boot 2 1 body=\"\\x22\"", "0 boot 2 1 body=\"\\x5c\"", "0 boot 2 1 body=\"\\x20\"", "0 boot 2 1 body=\"\\x7e\"", "0 boot 2 1 body=\"\\x0A\"", "0 boot 2 1 body=\"\\n\"", "0 boot 2 1 body=\"\t\"", "0 boot 2 1 body=\"\x7f\"", "0 boot 2 1 body=\"\xc8\"", "0 boot 2 1 body=\"\u00e9\"", "0 boot 2 1 body=\"a\" ", "0 boot 2 1 body=\"a\"b", "0 boot 2 1 body=\"a\" body=\"a\"", "0 boot 2 1 body=\"\\\"", "0 boot 2 1 body= \"a\"",
		"5 reply 0 1 cmd=0/0/0/0/\"\"/\"\"/\"\"", "5 reply 0 1 cmd=", "5 reply 0 1 cmd=1/1/1/1", "5 reply 0 1 cmd=1/1/1/1/\"\"/\"\"", "5 reply 0 1 cmd=1/1/1/\"\"/\"\"/\"\"", "5 reply 0 1 cmd=1/1/1/1/\"\"/\"\"/\"\"/\"\"", "5 reply 0 1 cmd=1/1/1/01/\"\"/\"\"/\"\"", "5 reply 0 1 cmd=1/1/1/1/\"\\x61\"/\"\"/\"\"", "5 reply 0 1 cmd=1/1/1/1/a/\"\"/\"\"", "5 reply 0 1 cmd=1/1/1/1/\"\" \"\"/\"\"", "5 reply 0 1 cmd=1/1/1/-1/\"\"/\"\"/\"\"", "5 reply 0 1 cmd=1/1/1/" + beyond + "/\"\"/\"\"/\"\"", "5 reply 0 1 cmd=1/1/1/1/\"\"/\"\"/\"", "5 reply 0 1 cmd=1/1/1/set/\"\"/\"\"/\"\"",
		"5 reply 0 1 result=0/\"\"/-0", "5 reply 0 1 result=0/\"\"/0", "5 reply 0 1 result=1/\"\"/-0", "5 reply 0 1 result=1/\"\"/+1", "5 reply 0 1 result=1/\"\"/--1", "5 reply 0 1 result=1/\"\"/-", "5 reply 0 1 result=1/\"\"/", "5 reply 0 1 result=1/\"\"", "5 reply 0 1 result=1/\"\"/01", "5 reply 0 1 result=1/\"\"/-01", "5 reply 0 1 result=-1/\"\"/1", "5 reply 0 1 result=1/\"\"/1/1", "5 reply 0 1 result=1/\"\"/" + beyond, "5 reply 0 1 result=1/\"\"/-" + beyond, "5 reply 0 1 result=" + beyond + "/\"\"/1", "5 reply 0 1 result=1/1/1", "5 reply 0 1 result=1/\"a\"/9223372036854775808", "5 reply 0 1 result=1/\"a\"/-9223372036854775808",
		"21 refuse 1 1 err=1000", "21 refuse 1 1 err=0", "21 refuse 1 1 err=", "21 refuse 1 1 err=-1", "21 refuse 1 1 err=01", "21 refuse 1 1 err=1 ", "21 refuse 1 1 err=1 err=1", "21 refuse 1 1 err=1 x", "21 refuse 1 1 err=" + bigest,
	} {
		for _, c := range []struct {
			text   string
			number int
		}{
			{traceHeader + line + "\n", 2},
			{traceHeader + "0 boot 2 1\n" + line + "\n0 boot 2 1\n", 3},
			{traceHeader + "0 boot 2 1\n" + line + "\n" + line + "\n", 3},
		} {
			if got, n, e := script.ParseTrace(c.text); got != nil || n != c.number || e != api.ErrLine {
				t.Errorf("S9: ParseTrace(%q) = %v, %d, %d, want %d, ErrLine", c.text, got, n, e, c.number)
			}
		}
	}
}

func TestTraceEnds(t *testing.T) {
	for _, c := range []struct {
		text   string
		number int
	}{
		{traceHeader + "0 boot 2 1", 2}, {traceHeader + "0 boot 2 1\n0", 3}, {traceHeader + "0 boot 2 1\n0 boot 2 1", 3}, {traceHeader + "\n", 2}, {traceHeader + "0 boot 2 1\n\n", 3}, {traceHeader + "x", 2}, {traceHeader + traceHeader, 2},
		{traceHeader + strings.Repeat("0 boot 2 1\n", 998) + "x\n", 1000},
	} {
		if got, n, e := script.ParseTrace(c.text); got != nil || n != c.number || e != api.ErrLine {
			t.Errorf("S9: ParseTrace(%.80q) = %v, %d, %d, want %d, ErrLine", c.text, got, n, e, c.number)
		}
	}
}

// markNumbers are a mark's numbers with their bounds; the mark has one member and one of Trans.
func markNumbers(m *api.Mark) []struct {
	name      string
	place     *int
	low, high int
} {
	return []struct {
		name      string
		place     *int
		low, high int
	}{
		{"At", &m.At, 0, big}, {"Kind", &m.Kind, 1, 16}, {"Node", &m.Node, 0, big}, {"Inc", &m.Inc, 0, big},
		{"ID.Epoch", &m.ID.Epoch, 0, big}, {"ID.Lead", &m.ID.Lead, 0, big}, {"ID.Inc", &m.ID.Inc, 0, big}, {"ID.Cid", &m.ID.Cid, 0, big},
		{"Pid", &m.Members[1].Pid, 0, big}, {"Inc of a member", &m.Members[1].Inc, 0, big}, {"Cid", &m.Members[1].Cid, 0, big}, {"Trans", &m.Trans[1], 0, big},
		{"Sender", &m.Sender, 0, big}, {"Seq", &m.Seq, 0, big}, {"Pos", &m.Pos, 0, big}, {"N", &m.N, 0, big},
		{"Client", &m.Cmd.Client, 0, big}, {"Inc of a command", &m.Cmd.Inc, 0, big}, {"Req", &m.Cmd.Req, 0, big}, {"Op", &m.Cmd.Op, 0, big},
		{"Code", &m.Result.Code, 0, big}, {"N of a result", &m.Result.N, -big, big}, {"Err", (*int)(&m.Err), 0, 999},
	}
}

func TestMarkBounds(t *testing.T) {
	fresh := func() api.Mark {
		return api.Mark{Kind: 3, Members: make([]api.Member, 2), Trans: make([]int, 2)}
	}
	first := fresh()
	for i, f := range markNumbers(&first) {
		for _, v := range []int{-int(^uint(0)>>1) - 1, f.low - 1, f.low, f.low + 1, f.high - 1, f.high, f.high + 1, int(^uint(0) >> 1)} {
			m := fresh()
			*markNumbers(&m)[i].place = v
			text, e := script.PrintTrace([]api.Mark{{Kind: 1}, m})
			if v < f.low || v > f.high {
				if text != "" || e != api.ErrLine {
					t.Errorf("S8: %s %d: %q, %d, want ErrLine", f.name, v, text, e)
				}
				continue
			}
			if e != api.OK {
				t.Errorf("S8: %s %d: %d", f.name, v, e)
			}
			if got, n, e := script.ParseTrace(text); e != api.OK || n != 0 || !sameMarks(got, []api.Mark{{Kind: 1}, m}) {
				t.Errorf("S10: %s %d: ParseTrace(%q) = %v, %d, %d", f.name, v, text, got, n, e)
			}
		}
	}
}

func TestLongTrace(t *testing.T) {
	l := make([]api.Mark, 3000)
	for i := range l {
		l[i] = api.Mark{At: i, Kind: 8, Body: []byte(strings.Repeat("\x00", 100)), Trans: make([]int, 20)}
	}
	text, e := script.PrintTrace(l)
	if e != api.OK || len(text) <= api.MaxText {
		t.Fatalf("S8: %d marks: %d bytes, %d", len(l), len(text), e)
	}
	if got, n, e := script.ParseTrace(text); e != api.OK || n != 0 || !sameMarks(got, l) {
		t.Errorf("S9: %d marks: %d, %d", len(l), n, e)
	}
}

func TestWildTraces(t *testing.T) {
	r := rand.New(rand.NewSource(5))
	for range 20000 {
		want := wildMarks(r)
		text, e := script.PrintTrace(want)
		if e != api.OK {
			t.Fatalf("S8: PrintTrace(%v) = %d", want, e)
		}
		got, n, e := script.ParseTrace(text)
		if e != api.OK || n != 0 || !sameMarks(got, want) {
			t.Fatalf("S10: ParseTrace(%q) = %v, %d, %d, want %v", text, got, n, e, want)
		}
		odd := spoil(r, text)
		got, n, e = script.ParseTrace(odd)
		switch e {
		case api.OK:
			if back, e := script.PrintTrace(got); back != odd || e != api.OK || n != 0 {
				t.Fatalf("S10: %q is read and printed as %q, %d", odd, back, e)
			}
		case api.ErrHeader:
			if strings.HasPrefix(odd, traceHeader) || got != nil || n != 0 {
				t.Fatalf("S9: ParseTrace(%q) = %v, %d, ErrHeader", odd, got, n)
			}
		default:
			wantBrokenAt(t, odd, got, n, e)
		}
	}
}

// wantBrokenAt: the lines ahead of the one that is told are a trace, and with it they are none.
func wantBrokenAt(t *testing.T, text string, got []api.Mark, n int, e api.Errno) {
	t.Helper()
	lines := strings.SplitAfter(text, "\n")
	if e != api.ErrLine || got != nil || n < 2 || n > len(lines) {
		t.Fatalf("S9: ParseTrace(%q) = %v, %d, %d", text, got, n, e)
	}
	if _, m, e := script.ParseTrace(strings.Join(lines[:n-1], "")); m != 0 || e != api.OK {
		t.Fatalf("S9: ParseTrace(%q) tells line %d, but the lines ahead of it: %d, %d", text, n, m, e)
	}
	if _, m, e := script.ParseTrace(traceHeader + lines[n-1]); m != 2 || e != api.ErrLine {
		t.Fatalf("S9: ParseTrace(%q) tells line %d, but that line alone: %d, %d", text, n, m, e)
	}
}

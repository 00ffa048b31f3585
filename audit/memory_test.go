package audit_test

import (
	"fmt"
	"math/rand"
	"runtime"
	"slices"
	"strings"
	"sync"
	"testing"
	"unsafe"

	"quorate/api"
	"quorate/audit"
	"quorate/script"
)

// roomy is a list with spare room, filled with something.
func roomy[T any](l []T, with T) []T {
	return append(slices.Clone(l), with, with, with)[:len(l)]
}

// roomyTrace is a trace all of whose lists have spare room.
func roomyTrace(l []api.Mark) []api.Mark {
	l = roomy(l, api.Mark{Kind: 77})
	for i := range l {
		l[i].Members, l[i].Trans, l[i].Body = roomy(l[i].Members, api.Member{Pid: 7}), roomy(l[i].Trans, 7), roomy(l[i].Body, 'Y')
	}
	return l
}

// allOf tells all of a trace, its spare room too.
func allOf(l []api.Mark) string {
	var b strings.Builder
	for _, m := range l[:cap(l)] {
		fmt.Fprint(&b, m, m.Members[:cap(m.Members)], m.Trans[:cap(m.Trans)], m.Body[:cap(m.Body)])
	}
	return b.String()
}

// storied is a trace with much in it, and its votes.
func storied(t testing.TB) ([]api.Mark, []int) {
	t.Helper()
	s := api.Script{Config: api.Config{Nodes: 3, Window: 4, Base: 2, Step: 1, Cap: 8, Room: 1000, Votes: three()}, Events: live(rand.New(rand.NewSource(1)), 3, 40)}
	l := played(t, s)
	if count(l, api.MarkReply) < 20 || count(l, api.MarkDeliver) < 200 {
		t.Fatalf("%d answers, %d deliveries: the test is too weak", count(l, api.MarkReply), count(l, api.MarkDeliver))
	}
	return l, s.Config.Votes
}

// TestChangesNothing: rule 5: what is handed in is not changed.
func TestChangesNothing(t *testing.T) {
	l, votes := storied(t)
	l, votes = roomyTrace(l), roomy(votes, 7)
	for _, end := range []int{len(l), len(l) / 2, 0} {
		given, given2 := allOf(l[:end]), fmt.Sprint(votes[:cap(votes)])
		audit.Group(l[:end])
		audit.Service(l[:end], votes)
		h := audit.History(l[:end])
		for i := range h[:cap(h)] {
			h[:cap(h)][i] = api.Command{Key: "XXX"}
		}
		if allOf(l[:end]) != given || fmt.Sprint(votes[:cap(votes)]) != given2 {
			t.Fatal("rule 5: what was handed in is changed")
		}
	}
	bad := behind(l, api.Mark{Kind: api.MarkApply})
	given := allOf(bad)
	audit.Group(bad)
	audit.Service(bad, votes)
	if allOf(bad) != given {
		t.Fatal("rule 5: what was handed in is changed")
	}
}

// TestHistoryIsNew: rule 5: History answers memory that it shares with nothing.
func TestHistoryIsNew(t *testing.T) {
	l, _ := storied(t)
	first, second := audit.History(l), audit.History(l)
	want := fmt.Sprint(first)
	for i := range second[:cap(second)] {
		second[:cap(second)][i] = api.Command{Key: "XXX"}
	}
	for i := range l {
		l[i] = api.Mark{}
	}
	if fmt.Sprint(first) != want || len(first) < 20 {
		t.Error("rule 5: History shares memory")
	}
}

// TestHistoryTexts: rule 5: the commands' texts are not cut out of those that are handed in.
func TestHistoryTexts(t *testing.T) {
	long := strings.Repeat("k", 1000)
	m := api.Mark{Kind: api.MarkApply, N: 1, Cmd: api.Command{Op: api.OpCas, Key: long[10:18], Val: long[20:28], Old: long[30:38]}}
	from := uintptr(unsafe.Pointer(unsafe.StringData(long)))
	for _, c := range audit.History([]api.Mark{m, with(m, func(m *api.Mark) { m.N = 2 })}) {
		for _, x := range []string{c.Key, c.Val, c.Old} {
			if at := uintptr(unsafe.Pointer(unsafe.StringData(x))); len(x) != 8 || at >= from && at < from+1000 {
				t.Fatalf("rule 5: a text of %+v is one that was handed in", c)
			}
		}
	}
	runtime.KeepAlive(long)
}

// TestEmpty: rule 5: nil and an empty list are the same where they are handed in.
func TestEmpty(t *testing.T) {
	l, votes := storied(t)
	nils, empties := slices.Clone(l), slices.Clone(l)
	for i := range l {
		if len(l[i].Members) == 0 {
			nils[i].Members, empties[i].Members = nil, []api.Member{}
		}
		if len(l[i].Trans) == 0 {
			nils[i].Trans, empties[i].Trans = nil, []int{}
		}
		if len(l[i].Body) == 0 {
			nils[i].Body, empties[i].Body = nil, []byte{}
		}
	}
	if audit.Group(nils) != audit.Group(empties) || serviceOf(t, nils, votes) != serviceOf(t, empties, votes) {
		t.Error("rule 5: nil and an empty list are not the same")
	}
	past := behind(marks(t, pair), mark(t, "6 send 0 1 id=2/0/1/2 seq=1"), mark(t, "6 send 0 1 id=2/0/1/2 seq=2"))
	past[len(past)-2].Body, past[len(past)-1].Body = nil, []byte{}
	deliver := mark(t, "6 deliver 1 1 id=2/0/1/2 seq=1 pos=1")
	wantGroup(t, 0, past, with(deliver, func(m *api.Mark) { m.Body = []byte{} }))
	past = behind(past, with(deliver, func(m *api.Mark) { m.Body = nil }))
	wantGroup(t, 0, past, with(deliver, func(m *api.Mark) { m.Seq, m.Pos, m.Body = 2, 2, nil }))
}

// TestAlike: rule 6: the same answers each time, whoever else asks at the same time.
func TestAlike(t *testing.T) {
	l, votes := storied(t)
	text, _ := script.PrintTrace(l)
	want := fmt.Sprint(audit.History(l))
	broken := behind(l[:len(l)/2], l[0])
	verdict := audit.Group(broken)
	var all sync.WaitGroup
	for range 8 {
		all.Go(func() {
			v, e := audit.Text(text, votes)
			if audit.Group(l) != (api.Verdict{}) || v != (api.Verdict{}) || e != api.OK || fmt.Sprint(audit.History(l)) != want || audit.Group(broken) != verdict {
				t.Error("rule 6: other answers than before")
			}
		})
	}
	all.Wait()
}

// TestKeepsNothing: nothing is kept from call to call.
func TestKeepsNothing(t *testing.T) {
	heap := func() uint64 {
		var m runtime.MemStats
		runtime.GC()
		runtime.GC()
		runtime.ReadMemStats(&m)
		return m.HeapAlloc
	}
	l, votes := storied(t)
	ask := func() {
		audit.Group(l)
		audit.Service(l, votes)
		audit.History(l)
	}
	ask()
	before := heap()
	for range 50 {
		ask()
	}
	if after := heap(); after > before+200000 {
		t.Errorf("%d bytes are kept of fifty calls", after-before)
	}
	runtime.KeepAlive(l)
}

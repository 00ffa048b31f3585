package flush_test

import (
	"bytes"
	"math"
	"math/rand"
	"slices"
	"testing"

	"quorate/api"
	"quorate/flush"
)

// viewID is the chapter's V.
var viewID = api.ViewID{Epoch: 3, Lead: 0, Inc: 1, Cid: 2}

// slots of senders and numbers in turn.
func slots(l ...int) []api.Slot {
	var list []api.Slot
	for i := 0; i+1 < len(l); i += 2 {
		list = append(list, api.Slot{Sender: l[i], Seq: l[i+1]})
	}
	return list
}

func content(base int, l []api.Slot, have ...int) api.Flush {
	return api.Flush{Prev: viewID, Base: base, Slots: l, Have: have}
}

// contents are A, B and C of the chapter's examples.
func contents() (a, b, c api.Flush) {
	return content(2, slots(0, 3, 1, 1), 3, 1, 0), content(3, slots(1, 1, 1, 2, 0, 4), 3, 1, 0), content(2, slots(0, 3), 3, 0, 0)
}

// four is a content of three nodes told for four.
func four(f api.Flush) api.Flush {
	f.Have = append(slices.Clone(f.Have), 0)
	return f
}

func message(sender, seq, stable int, body string) api.Data {
	return api.Data{Sender: sender, Seq: seq, Stable: stable, Body: []byte(body)}
}

func forward(msgs ...api.Data) api.Forward { return api.Forward{Prev: viewID, Msgs: msgs} }

func member(pid, inc int) api.Member { return api.Member{Pid: pid, Inc: inc, Cid: 7} }

func sameData(a, b api.Data) bool {
	return a.Sender == b.Sender && a.Seq == b.Seq && a.Stable == b.Stable && bytes.Equal(a.Body, b.Body)
}

func sameMsg(a, b api.Msg) bool {
	return a.Pos == b.Pos && a.Sender == b.Sender && a.Seq == b.Seq && bytes.Equal(a.Body, b.Body)
}

func sameFlush(a, b api.Flush) bool {
	return a.Prev == b.Prev && a.Base == b.Base && slices.Equal(a.Slots, b.Slots) && slices.Equal(a.Have, b.Have)
}

func wantCut(t *testing.T, want int, e api.Errno, all ...api.Flush) {
	t.Helper()
	if k, got := flush.Cut(all); k != want || got != e {
		t.Fatalf("F1: Cut(%v) = %d, error %d, want %d, error %d", all, k, got, want, e)
	}
}

func wantLacks(t *testing.T, done int, own api.Flush, all []api.Flush, want []api.Slot, e api.Errno) {
	t.Helper()
	if l, got := flush.Lacks(done, own, all); !slices.Equal(l, want) || got != e {
		t.Fatalf("F2: Lacks(%d, %v, %v) = %v, error %d, want %v, error %d", done, own, all, l, got, want, e)
	}
}

func wantDuty(t *testing.T, self, q int, who []int, all []api.Flush, want []api.Slot, e api.Errno) {
	t.Helper()
	if l, got := flush.Duty(self, q, who, all); !slices.Equal(l, want) || got != e {
		t.Fatalf("F3: Duty(%d, %d, %v, %v) = %v, error %d, want %v, error %d", self, q, who, all, l, got, want, e)
	}
}

func wantRest(t *testing.T, done int, all []api.Flush, msgs []api.Data, want []api.Msg, e api.Errno) {
	t.Helper()
	if l, got := flush.Rest(done, all, msgs); !slices.EqualFunc(l, want, sameMsg) || got != e {
		t.Fatalf("F4: Rest(%d, %v, %v) = %v, error %d, want %v, error %d", done, all, msgs, l, got, want, e)
	}
}

// wantAll: what all four say of contents that are refused.
func wantAll(t *testing.T, e api.Errno, all ...api.Flush) {
	t.Helper()
	wantCut(t, 0, e, all...)
	wantRest(t, 9, all, nil, nil, e)
	wantRest(t, 0, all, nil, nil, e)
	if len(all) > 0 {
		last := len(all) - 1
		wantLacks(t, 9, all[last], all, nil, e)
		wantLacks(t, 9, all[0], all, nil, e)
	}
	if len(all) > 1 {
		last := len(all) - 1
		wantLacks(t, 9, all[last], all[:last], nil, e)
		wantLacks(t, 9, all[0], all[1:], nil, e)
		wantDuty(t, 0, 1, upTo(len(all)), all, nil, e)
	}
}

// upTo lists the numbers from 0 on.
func upTo(n int) []int {
	var l []int
	for p := range n {
		l = append(l, p)
	}
	return l
}

func made(t *testing.T, nodes int) *flush.Store {
	t.Helper()
	s, e := flush.New(nodes)
	if s == nil || e != api.OK {
		t.Fatalf("F8: New(%d): error %d, want a store", nodes, e)
	}
	return s
}

func wantTake(t *testing.T, s *flush.Store, q, inc int, f api.Flush, want api.Errno) {
	t.Helper()
	if e := s.Take(q, inc, f); e != want {
		t.Fatalf("F9: Take(%d, %d, %v): error %d, want %d", q, inc, f, e, want)
	}
}

func wantMissing(t *testing.T, s *flush.Store, prev api.ViewID, who []api.Member, want ...int) {
	t.Helper()
	if l := s.Missing(prev, who); !slices.Equal(l, want) {
		t.Fatalf("F10: Missing(%v, %v) = %v, want %v", prev, who, l, want)
	}
	if l, e := s.Contents(prev, who); len(want) > 0 && (len(l) > 0 || e != api.ErrMissing) {
		t.Fatalf("F11: Contents(%v, %v) = %v, error %d, though %v are missing", prev, who, l, e, want)
	}
}

func wantContents(t *testing.T, s *flush.Store, prev api.ViewID, who []api.Member, want ...api.Flush) {
	t.Helper()
	wantMissing(t, s, prev, who)
	if l, e := s.Contents(prev, who); e != api.OK || !slices.EqualFunc(l, want, sameFlush) {
		t.Fatalf("F11: Contents(%v, %v) = %v, error %d, want %v", prev, who, l, e, want)
	}
}

func wantAdd(t *testing.T, s *flush.Store, f api.Forward, want api.Errno) {
	t.Helper()
	if e := s.Add(f); e != want {
		t.Fatalf("F13: Add(%v): error %d, want %d", f, e, want)
	}
}

func wantMessages(t *testing.T, s *flush.Store, want ...api.Data) {
	t.Helper()
	if l := s.Messages(); !slices.EqualFunc(l, want, sameData) {
		t.Fatalf("F14: Messages = %v, want %v", l, want)
	}
}

// far are numbers that are no node's and no counter's.
func far() []int { return []int{math.MinInt, -api.MaxCount, -1, api.MaxCount + 1, math.MaxInt} }

// busyNodes: the store that atWork makes is for so many.
const busyNodes = 3

// atWork is a store with contents of two nodes and some messages.
func atWork(t *testing.T) *flush.Store {
	t.Helper()
	a, b, _ := contents()
	s := made(t, busyNodes)
	wantTake(t, s, 0, 1, a, api.OK)
	wantTake(t, s, 2, 4, b, api.OK)
	s.Begin(viewID)
	wantAdd(t, s, forward(message(0, 4, 2, "y"), message(1, 1, 0, "x"), message(1, 2, 3, "")), api.OK)
	return s
}

// wantSame holds two stores against each other in all that can be found out: which view was begun, and of whom what is kept, shows only in what later calls answer, so both go on alike for a while.
func wantSame(t *testing.T, what string, s, twin *flush.Store) {
	t.Helper()
	r := rand.New(rand.NewSource(1))
	for k := range 200 {
		ask := wildAsk(r, busyNodes)
		if got, want := ask(s), ask(twin); !sameAnswer(got, want) {
			t.Fatalf("%s: in step %d of looking it tells %v, want %v", what, k, got, want)
		}
		do := wildCall(r, busyNodes)
		if got, want := do(s), do(twin); !sameAnswer(got, want) {
			t.Fatalf("%s: in step %d of looking it answers %v, want %v", what, k, got, want)
		}
	}
}

// wantUnchanged lets stores do what must change nothing.
func wantUnchanged(t *testing.T, what string, do func(s *flush.Store)) {
	t.Helper()
	for _, make := range []func(t *testing.T) *flush.Store{atWork, fresh} {
		s := make(t)
		do(s)
		wantSame(t, what, s, make(t))
	}
}

func fresh(t *testing.T) *flush.Store {
	t.Helper()
	return made(t, busyNodes)
}

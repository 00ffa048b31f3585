package flush_test

import (
	"fmt"
	"math/rand"
	"runtime"
	"slices"
	"testing"

	"quorate/api"
	"quorate/flush"
)

// list is one that was handed in or answered, of whatever it may be.
type list interface {
	text() string // its spare room too
	scribble()
}

type listOf[T any] struct {
	l    []T
	with T
}

func (x listOf[T]) text() string { return fmt.Sprint(x.l[:cap(x.l)]) }

func (x listOf[T]) scribble() {
	l := x.l[:cap(x.l)]
	for k := range l {
		l[k] = x.with
	}
}

// lists are some, each ahead of the bodies and lists in it: what is written into those shows in it.
type lists []list

func (l *lists) body(b []byte)   { *l = append(*l, listOf[byte]{b, 'X'}) }
func (l *lists) numbers(n []int) { *l = append(*l, listOf[int]{n, 77}) }
func (l *lists) slots(s []api.Slot) {
	*l = append(*l, listOf[api.Slot]{s, api.Slot{Sender: 1, Seq: 77}})
}
func (l *lists) who(list []api.Member) { *l = append(*l, listOf[api.Member]{list, api.Member{Pid: 7}}) }

func (l *lists) messages(list []api.Data) {
	*l = append(*l, listOf[api.Data]{list, api.Data{Sender: 7, Seq: 7}})
	for _, d := range list[:cap(list)] {
		l.body(d.Body)
	}
}

func (l *lists) delivered(list []api.Msg) {
	*l = append(*l, listOf[api.Msg]{list, api.Msg{Pos: 7}})
	for _, m := range list[:cap(list)] {
		l.body(m.Body)
	}
}

func (l *lists) content(f api.Flush) {
	l.slots(f.Slots)
	l.numbers(f.Have)
}

func (l *lists) contents(list []api.Flush) {
	*l = append(*l, listOf[api.Flush]{list, api.Flush{Base: 7}})
	for _, f := range list[:cap(list)] {
		l.content(f)
	}
}

// ask adds all that a store tells.
func (l *lists) ask(s *flush.Store, who []api.Member) {
	l.numbers(s.Missing(viewID, who))
	l.numbers(s.Missing(api.ViewID{}, who))
	all, _ := s.Contents(viewID, who)
	l.contents(all)
	l.messages(s.Messages())
}

func (l lists) texts() []string {
	var texts []string
	for _, x := range l {
		texts = append(texts, x.text())
	}
	return texts
}

// scribble writes over one list behind the other.
func (l lists) scribble() {
	for _, x := range l {
		x.scribble()
	}
}

// wantApart writes over one list behind the other, and looks whether another one changes with it.
func (l lists) wantApart(t *testing.T) {
	t.Helper()
	for k, x := range l {
		rest := l[k+1:].texts()
		x.scribble()
		if !slices.Equal(l[k+1:].texts(), rest) {
			t.Fatal("rule 5: two lists share memory")
		}
	}
}

// roomy is the same list with room behind it that is not the callee's to write.
func roomy[T any](l []T, with T) []T {
	wide := append(slices.Clone(l), with, with, with)
	return wide[:len(l)]
}

func roomyContent(f api.Flush) api.Flush {
	f.Slots, f.Have = roomy(f.Slots, api.Slot{Sender: 2, Seq: 55}), roomy(f.Have, 55)
	return f
}

func roomyContents(all []api.Flush) []api.Flush {
	l := roomy(all, api.Flush{Base: 55})
	for k := range l {
		l[k] = roomyContent(l[k])
	}
	return l
}

func roomyMessages(msgs []api.Data) []api.Data {
	l := roomy(msgs, message(2, 55, 55, "spare"))
	for k := range l {
		l[k].Body = roomy(l[k].Body, 's')
	}
	return l
}

// TestReckoningStays: what the four are handed stays as it is, and is not in what they answer.
func TestReckoningStays(t *testing.T) {
	r := rand.New(rand.NewSource(9))
	answered := 0
	for range 1000 {
		s := wildStory(r)
		all, own, msgs := roomyContents(s.contents(r, 1+r.Intn(3))), roomyContent(s.content(r)), roomyMessages(s.messages(r))
		who := roomy(r.Perm(api.MaxNodes)[:len(all)], 55)
		var in, out lists
		in.contents(all)
		in.content(own)
		in.messages(msgs)
		in.numbers(who)
		before := in.texts()
		base := greatestBase(all)
		flush.Cut(all)
		for range 2 {
			lacks, _ := flush.Lacks(max(base, own.Base), own, all)
			out.slots(lacks)
			duty, _ := flush.Duty(who[0], who[len(who)-1], who, all)
			out.slots(duty)
			rest, _ := flush.Rest(base, all, msgs)
			out.delivered(rest)
			answered += len(lacks) + len(duty) + len(rest)
		}
		if !slices.Equal(in.texts(), before) {
			t.Fatal("rule 5: what is handed in is changed")
		}
		told := out.texts()
		in.scribble()
		if !slices.Equal(out.texts(), told) {
			t.Fatal("F1 to F4: an answer shares memory with what is handed in")
		}
		out.wantApart(t)
	}
	if answered < 1000 {
		t.Errorf("the contents are too tame: %d slots and messages were answered", answered)
	}
}

// TestStoreStays: the same of what a store is handed, whatever becomes of it; and it keeps none of it.
func TestStoreStays(t *testing.T) {
	a, b, c := contents()
	newer := b
	newer.Prev.Epoch++
	wantStays := func(what string, do func(s *flush.Store, in *lists)) {
		t.Helper()
		var in lists
		s, twin := atWork(t), atWork(t)
		do(s, &in)
		do(twin, &lists{})
		in.scribble()
		wantSame(t, what, s, twin)
	}
	take := func(q, inc int, f api.Flush) {
		t.Helper()
		wantStays("F9: writing into a content that was handed in", func(s *flush.Store, in *lists) {
			mine := roomyContent(f)
			in.content(mine)
			before := in.texts()
			s.Take(q, inc, mine)
			if !slices.Equal(in.texts(), before) {
				t.Fatal("F9: the content that is handed in is changed")
			}
		})
	}
	take(0, 1, a)
	take(0, 1, b)
	take(0, 1, newer)
	take(0, 2, c)
	take(1, 1, c)
	take(2, 4, newer)
	take(1, 1, content(0, nil, 0, 0, 0))
	add := func(msgs ...api.Data) {
		t.Helper()
		wantStays("F13: writing into messages that were handed in", func(s *flush.Store, in *lists) {
			mine := roomyMessages(msgs)
			in.messages(mine)
			before := in.texts()
			s.Add(forward(mine...))
			if !slices.Equal(in.texts(), before) {
				t.Fatal("F13: what is handed in is changed")
			}
		})
	}
	add(message(0, 4, 2, "y"), message(1, 1, 0, "x"))
	add(message(0, 5, 2, "new"), message(2, 1, 0, ""))
	add(message(0, 5, 2, "new"), message(1, 1, 0, "other"))
	add(message(2, 1, 0, "z"), message(0, 1, 0, ""))
	wantStays("F10, F11: writing into members that were handed in", func(s *flush.Store, in *lists) {
		who := roomy([]api.Member{member(2, 4), member(0, 1), member(1, 1)}, member(0, 55))
		in.who(who)
		before := in.texts()
		s.Missing(viewID, who)
		s.Contents(viewID, who)
		s.Contents(viewID, who[:2])
		if !slices.Equal(in.texts(), before) {
			t.Fatal("F10, F11: the members that are handed in are changed")
		}
	})
}

// TestAnswersAreNew: writing into an answer changes neither what is kept nor another answer.
func TestAnswersAreNew(t *testing.T) {
	who := []api.Member{member(0, 1), member(2, 4), member(0, 1)}
	wantUnchanged(t, "rule 5: writing into what is told", func(s *flush.Store) {
		var l lists
		l.ask(s, who)
		l.ask(s, who)
		l.wantApart(t)
	})
}

// TestAnswersStay: no later call changes what was answered.
func TestAnswersStay(t *testing.T) {
	r := rand.New(rand.NewSource(10))
	for range 200 {
		s := atWork(t)
		var l lists
		for k := range 60 {
			wildCall(r, busyNodes)(s)
			if k%20 == 0 {
				l.ask(s, []api.Member{member(0, 1), member(0, 2), member(2, 4)})
			}
			if k%7 == 0 {
				a := wildAsk(r, busyNodes)(s)
				l.numbers(a.pids)
				l.contents(a.contents)
			}
		}
		asTold := l.texts()
		for range 60 {
			wildCall(r, busyNodes)(s)
			wildAsk(r, busyNodes)(s)
		}
		if !slices.Equal(l.texts(), asTold) {
			t.Fatal("rule 5: an answer changed")
		}
	}
}

// TestTellingChangesNothing: rule 7.
func TestTellingChangesNothing(t *testing.T) {
	r := rand.New(rand.NewSource(11))
	wantUnchanged(t, "rule 7: telling", func(s *flush.Store) {
		for range 50 {
			wildAsk(r, busyNodes)(s)
		}
	})
}

// TestStoresApart: what a store answers hangs on the calls on it alone.
func TestStoresApart(t *testing.T) {
	r := rand.New(rand.NewSource(12))
	wantUnchanged(t, "rule 6: calls on another store", func(*flush.Store) {
		other := atWork(t)
		for range 50 {
			wildCall(r, busyNodes)(other)
		}
	})
}

// TestReckoningForgets: what the four answer hangs on what they are given.
func TestReckoningForgets(t *testing.T) {
	a, b, c := contents()
	for range 3 {
		wantLacks(t, 3, c, []api.Flush{a, b, c}, slots(1, 1), api.OK)
		wantCut(t, 0, api.ErrFork, a, content(2, slots(0, 2), 3, 0, 0))
		wantCut(t, 4, api.OK, a, b, c)
		wantCut(t, 3, api.OK, c)
	}
}

func heapInUse() int {
	runtime.GC()
	var s runtime.MemStats
	runtime.ReadMemStats(&s)
	return int(s.HeapAlloc)
}

// TestKeepsLittle: contents that were replaced and messages of views that are over leave nothing behind (P12).
func TestKeepsLittle(t *testing.T) {
	s := made(t, 3)
	id := viewID
	before := heapInUse()
	for k := range 3000 {
		id.Epoch = k + 1
		s.Begin(id)
		wantAdd(t, s, api.Forward{Prev: id, Msgs: numbered(k%3, k+1, k+api.MaxHeld)}, api.OK)
		wantTake(t, s, 1, 1, api.Flush{Prev: id, Base: k, Slots: many(api.MaxHeld), Have: []int{k, k, k}}, api.OK)
	}
	if grown := heapInUse() - before; grown > 1<<20 {
		t.Errorf("rule 8: behind many views %d bytes more are kept", grown)
	}
	wantMissing(t, s, id, []api.Member{member(1, 1)})
}

// TestKeepsNoArgument: an empty list may be the beginning of something great that is not to be kept alive.
func TestKeepsNoArgument(t *testing.T) {
	var l []*flush.Store
	before := heapInUse()
	for range 40 {
		s := made(t, 3)
		s.Begin(viewID)
		wantAdd(t, s, forward(api.Data{Sender: 1, Seq: 1, Body: make([]byte, 1<<20)[:0]}), api.OK)
		wantTake(t, s, 1, 1, content(0, make([]api.Slot, 1<<16)[:0], 0, 0, 0), api.OK)
		wantTake(t, s, 2, 1, content(0, nil, make([]int, 1<<17)[:3]...), api.OK)
		l = append(l, s)
	}
	if grown := heapInUse() - before; grown > 8<<20 {
		t.Errorf("rule 5: of lists that were handed in %d bytes are kept", grown)
	}
	runtime.KeepAlive(l)
}

package order_test

import (
	"fmt"
	"math/rand"
	"runtime"
	"slices"
	"testing"

	"quorate/api"
	"quorate/order"
)

// list is one that was answered, of whatever it may be.
type list interface {
	text() string // its spare room too
	scribble()
}

type listOf[T any] struct {
	l    []T
	with T
}

func (x listOf[T]) text() string { return fmt.Sprint(x.l[:cap(x.l)]) }

func (x listOf[T]) scribble() {
	l := x.l[:cap(x.l)]
	for k := range l {
		l[k] = x.with
	}
}

// told are the lists that an Order answered, each ahead of the bodies in it.
type told []list

func (l *told) body(b []byte) { *l = append(*l, listOf[byte]{b, 'X'}) }

func (l *told) messages(list []api.Data) {
	*l = append(*l, listOf[api.Data]{list, api.Data{Sender: 7, Seq: 7}})
	for _, d := range list {
		l.body(d.Body)
	}
}

func (l *told) content(f api.Flush) {
	*l = append(*l, listOf[api.Slot]{f.Slots, api.Slot{Sender: 7, Seq: 7}}, listOf[int]{f.Have, 77})
}

func (l *told) answer(a answer) {
	l.body(a.data.Body)
	*l = append(*l, listOf[api.Item]{a.items, api.Item{Kind: 7}}, listOf[api.Msg]{a.msgs, api.Msg{Pos: 7}})
	for _, it := range a.items {
		l.body(it.Data.Body)
	}
	for _, m := range a.msgs {
		l.body(m.Body)
	}
}

// ask adds all lists that an Order tells, each once.
func (l *told) ask(o *order.Order) {
	l.content(o.Content(api.MaxNodes))
	l.content(o.Content(3))
	l.messages(o.Messages())
}

func (l told) texts() []string {
	var texts []string
	for _, x := range l {
		texts = append(texts, x.text())
	}
	return texts
}

// scribble writes over one list behind the other, and looks whether another one changes with it.
func (l told) scribble(t *testing.T) {
	t.Helper()
	want := l.texts()
	for k, x := range l {
		x.scribble()
		want[k] = x.text()
		if k%8 == 0 || len(l) < 100 {
			if !slices.Equal(l.texts(), want) {
				t.Fatal("rule 5: two answers share memory")
			}
		}
	}
	if !slices.Equal(l.texts(), want) {
		t.Fatal("rule 5: two answers share memory")
	}
}

// withSpare is a body with room behind it that is not the callee's to write.
func withSpare(s string) []byte { return append([]byte(s), "spare"...)[:len(s)] }

func wantStays(t *testing.T, what string, l []byte, want string) {
	t.Helper()
	if string(l) != want || string(l[:len(want)+5]) != want+"spare" {
		t.Fatalf("rule 5: %s is %q now, was %q", what, l[:len(want)+5], want)
	}
	listOf[byte]{l, 'X'}.scribble()
}

// TestViewStays: the members that are handed in are neither changed nor kept.
func TestViewStays(t *testing.T) {
	v := view(0, 2, 5, 9)
	v.Members = v.Members[:3]
	o, e := order.New(v, 2, 2)
	if e != api.OK || !slices.Equal(v.Members[:4], view(0, 2, 5, 9).Members) {
		t.Fatalf("rule 5: error %d, the members handed in are %v now", e, v.Members[:4])
	}
	listOf[api.Member]{v.Members, api.Member{Pid: 7, Inc: 7, Cid: 7}}.scribble()
	wantSame(t, "O1: writing into the members that were handed in", view(0, 2, 5), 2, o, made(t, view(0, 2, 5), 2, 2))
}

// TestSendStays: a body that is handed in is neither changed nor kept, and what is answered is neither it nor what is held.
func TestSendStays(t *testing.T) {
	for _, b := range busyOnes() {
		for _, text := range []string{"", "hello"} {
			o, twin := b.make(t), b.make(t)
			body := withSpare(text)
			d, e := o.Send(body)
			answered := listOf[byte]{d.Body, 'Y'}
			before := answered.text()
			wantStays(t, "a body that was handed in", body, text)
			if answered.text() != before {
				t.Fatal("O2: the answer's Body is the body that was handed in")
			}
			answered.scribble()
			if body[:5][0] != 'X' {
				t.Fatal("O2: the answer's Body has room in the body that was handed in")
			}
			if _, same := twin.Send([]byte(text)); same != e {
				t.Fatalf("rule 6: error %d, then %d", e, same)
			}
			wantSame(t, "O2: writing into what Send was handed and answered", view(0, 2, 5), b.self, o, twin)
		}
	}
}

// TestPlaceStays: the same of an item, whatever becomes of it.
func TestPlaceStays(t *testing.T) {
	for _, b := range busyOnes() {
		for _, c := range []struct{ from, sender, seq, stable int }{{5, 5, 2, 0}, {5, 5, 1, 2}, {5, 5, 1, 0}, {0, 0, 2, 0}, {2, 2, 3, 0}, {5, 2, 1, 0}, {1, 1, 1, 0}} {
			for _, text := range []string{"", "hello"} {
				o, twin := b.make(t), b.make(t)
				it := data(c.sender, c.seq, c.stable, "")
				it.Data.Body = withSpare(text)
				e := o.Place(c.from, it)
				wantStays(t, "an item's body", it.Data.Body, text)
				wantPlace(t, twin, c.from, data(c.sender, c.seq, c.stable, text), e)
				wantSame(t, "O4: writing into an item that was handed in", view(0, 2, 5), b.self, o, twin)
			}
		}
	}
	o, twin := atSecond(t), atSecond(t)
	it := slot(4, 0, 2, 2)
	it.Data.Body = withSpare("")
	wantPlace(t, o, 0, it, api.OK)
	wantStays(t, "a slot's empty body", it.Data.Body, "")
	wantPlace(t, twin, 0, slot(4, 0, 2, 2), api.OK)
	wantSame(t, "O4: writing into a slot that was handed in", view(0, 2, 5), 2, o, twin)
}

// TestAnswersAreNew: writing into an answer changes nothing that is kept.
func TestAnswersAreNew(t *testing.T) {
	wantUnchanged(t, "rule 5: writing into what is told", func(o *order.Order) {
		var l told
		l.ask(o)
		l.ask(o)
		l.scribble(t)
	})
	for _, b := range busyOnes() {
		o, twin := b.make(t), b.make(t)
		goOn(o).scribble(t)
		goOn(twin)
		wantSame(t, "rule 5: writing into answers", view(0, 2, 5), b.self, o, twin)
	}
}

// goOn calls all that answers lists.
func goOn(o *order.Order) told {
	var l told
	d, _ := o.Send([]byte("e"))
	l.answer(answer{data: d, items: o.Assign(9), msgs: o.Deliver(1)})
	l.ask(o)
	return l
}

// TestAnswersStay: no later call changes what was answered, and no two answers share memory.
func TestAnswersStay(t *testing.T) {
	r := rand.New(rand.NewSource(6))
	for range 60 {
		v, self, window := wildView(r)
		o := made(t, v, self, window)
		var l told
		for k := range 120 {
			l.answer(wildCall(r, v, self, look(o))(o))
			if k%20 == 0 {
				l.ask(o)
			}
		}
		asTold := l.texts()
		for range 120 {
			wildCall(r, v, self, look(o))(o)
		}
		if !slices.Equal(l.texts(), asTold) {
			t.Fatal("rule 5: an answer changed")
		}
		l.scribble(t)
	}
}

// TestTellingChangesNothing: rule 7.
func TestTellingChangesNothing(t *testing.T) {
	wantUnchanged(t, "rule 7: telling", func(o *order.Order) {
		for range 3 {
			look(o)
		}
	})
}

// TestOrdersApart: what an Order answers hangs on the calls on it alone.
func TestOrdersApart(t *testing.T) {
	wantUnchanged(t, "rule 6: calls on another Order", func(*order.Order) {
		first, second := atFirst(t), atSecond(t)
		first.Assign(9)
		first.Deliver(9)
		wantHear(t, first, 2, stable(5, 5), api.OK)
		wantPlace(t, second, 5, data(5, 1, 0, "p"), api.OK)
		wantDeliver(t, second, 9, "3 5/1 p")
		wantSend(t, second, "q", api.Data{Sender: 2, Seq: 3, Stable: 1})
		second.Freeze()
	})
}

func heapInUse() int {
	runtime.GC()
	var s runtime.MemStats
	runtime.ReadMemStats(&s)
	return int(s.HeapAlloc)
}

// TestKeepsLittle: messages that all have delivered leave nothing behind (P12).
func TestKeepsLittle(t *testing.T) {
	a, b := made(t, view(0, 1), 0, 1), made(t, view(0, 1), 1, 1)
	before := heapInUse()
	const count = 100000
	body := make([]byte, api.MaxChunk)
	for k := range count {
		d, e := b.Send(body)
		if e != api.OK {
			t.Fatalf("O2: message %d: error %d", k, e)
		}
		wantPlace(t, a, 1, api.Item{Kind: api.ItemData, Data: d}, api.OK)
		for _, it := range a.Assign(9) {
			wantPlace(t, b, 0, it, api.OK)
		}
		a.Deliver(9)
		b.Deliver(9)
		wantHear(t, a, 1, b.Told(), api.OK)
		wantHear(t, b, 0, a.Told(), api.OK)
	}
	if grown := heapInUse() - before; grown > 1<<20 {
		t.Errorf("rule 8: behind %d messages %d bytes more are kept", count, grown)
	}
	wantStand(t, a, stand{done: count, prefix: count, free: 1})
	wantStand(t, b, stand{done: count, prefix: count, free: 1, sent: count, delivered: count})
}

// TestKeepsNoArgument: an empty body may be the beginning of something great that is not to be kept alive.
func TestKeepsNoArgument(t *testing.T) {
	var l []*order.Order
	before := heapInUse()
	for range 40 {
		great := make([]byte, 1<<20)
		o := made(t, view(0, 1), 0, 2)
		if _, e := o.Send(great[:0]); e != api.OK {
			t.Fatalf("O2: error %d", e)
		}
		it := data(1, 1, 0, "")
		it.Data.Body = great[:0]
		wantPlace(t, o, 1, it, api.OK)
		l = append(l, o)
	}
	if grown := heapInUse() - before; grown > 8<<20 {
		t.Errorf("rule 5: of bodies that were handed in %d bytes are kept", grown)
	}
	runtime.KeepAlive(l)
}

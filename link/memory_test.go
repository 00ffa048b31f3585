package link_test

import (
	"math/rand"
	"runtime"
	"slices"
	"testing"

	"quorate/api"
	"quorate/link"
)

// scribble writes over a list, its spare room too.
func scribble[T any](l []T, with T) {
	l = l[:cap(l)]
	for i := range l {
		l[i] = with
	}
}

func copyFrames(l []api.Frame) []api.Frame {
	l = slices.Clone(l)
	for k := range l {
		l[k].Body = slices.Clone(l[k].Body)
	}
	return l
}

func copyLists(l [][]byte) [][]byte {
	l = slices.Clone(l)
	for k := range l {
		l[k] = slices.Clone(l[k])
	}
	return l
}

func sameLists(a, b [][]byte) bool {
	return slices.EqualFunc(a, b, func(x, y []byte) bool { return string(x) == string(y) })
}

// scribbleLists writes over each list in turn, looking whether another one changes, and then over the whole.
func scribbleLists(t *testing.T, what string, l [][]byte) {
	t.Helper()
	want := copyLists(l)
	for k := range l {
		scribble(l[k], 'X')
		scribble(want[k], 'X')
		if !sameLists(l, want) {
			t.Fatalf("rule 5: %s: writing into entry %d changed another one", what, k)
		}
	}
	scribble(l, []byte("Y"))
}

func bodiesOf(l []api.Frame) [][]byte {
	var list [][]byte
	for _, f := range l {
		list = append(list, f.Body)
	}
	return list
}

func scribbleFrames(t *testing.T, what string, l []api.Frame) {
	t.Helper()
	scribbleLists(t, what, bodiesOf(l))
	scribble(l, frame(tagU, 99, "Y"))
}

// withSpare is a text with spare room behind it.
func withSpare(s string) []byte { return append(make([]byte, 0, len(s)+9), s...) }

func TestArgumentsStay(t *testing.T) {
	m := made(t, 4, 0, 3, 3)
	peers := []int{1, 3, 9}[:2]
	reset(t, m, tagT, peers...)
	a, b, c := withSpare("abc"), withSpare("def"), withSpare("ghi")
	if e := m.Push(1, a); e != api.OK {
		t.Fatalf("L3: Push: error %d", e)
	}
	ahead := api.Frame{Tag: tagT, Seq: 2, Body: b}
	if _, e := m.Take(1, ahead); e != api.OK {
		t.Fatalf("L7: Take: error %d", e)
	}
	first, e := m.Take(3, api.Frame{Tag: tagT, Seq: 1, Body: c})
	if e != api.OK {
		t.Fatalf("L7: Take: error %d", e)
	}
	scribble(first[0], 'Y')
	for k, body := range [][]byte{a, b, c} {
		want := []string{"abc", "def", "ghi"}[k] + "\x00\x00\x00\x00\x00\x00\x00\x00\x00"
		if string(body[:cap(body)]) != want {
			t.Errorf("rule 5: an argument is %q now, was %q", body[:cap(body)], want)
		}
		scribble(body, 'X')
	}
	if !slices.Equal(peers[:3], []int{1, 3, 9}) {
		t.Errorf("rule 5: the peers handed in are %v now", peers[:3])
	}
	scribble(peers, 2)
	wantFrames(t, m, 1, frame(tagT, 1, "abc"))
	take(t, m, 1, 1, "x", "x def")
	wantStranger(t, m, 2)
	wantNumbers(t, m, 3, numbers{room: 3, got: 1})
}

func TestAnswersAreNew(t *testing.T) {
	wantUnchanged(t, "rule 5: writing into Frames", func(m *link.Mux) {
		for _, p := range []int{0, 3, 0, 3} {
			scribbleFrames(t, "Frames", m.Frames(p))
		}
	})
	m := busy(t)
	l, _ := m.Take(3, frame(tagT, 1, "X"))
	scribbleLists(t, "Take", l)
	take(t, m, 3, 2, "x", "")
	take(t, m, 3, 5, "V", "")
	take(t, m, 3, 4, "W", "W V")
	take(t, m, 0, 2, "B", "B C")
}

// TestAnswersStay: no later call changes what was answered, and no two answers share memory.
func TestAnswersStay(t *testing.T) {
	r := rand.New(rand.NewSource(6))
	for range 100 {
		p := newPair(t, 4, [2]int{6, 9})
		var told, asTold [][][]byte
		for range 60 {
			k := r.Intn(2)
			p.push(k)
			e, o := p.ends[k], p.other(k)
			frames := e.Frames(e.peer)
			told, asTold = append(told, bodiesOf(frames)), append(asTold, copyLists(bodiesOf(frames)))
			for _, f := range pick(r, copyFrames(frames)) {
				l, _ := o.Take(o.peer, f)
				told, asTold = append(told, l), append(asTold, copyLists(l))
			}
			if a, ok := o.Owed(o.peer); ok && r.Intn(2) == 0 {
				p.answer(t, k, a)
			}
		}
		for i := range told {
			if !sameLists(told[i], asTold[i]) {
				t.Fatalf("rule 5: an answer changed: %q, was %q", told[i], asTold[i])
			}
		}
		for i := range told {
			scribbleLists(t, "all answers", told[i])
			for j := i + 1; j < len(told); j++ {
				if !sameLists(told[j], asTold[j]) {
					t.Fatalf("rule 5: two answers share memory: %q, was %q", told[j], asTold[j])
				}
			}
		}
	}
}

// TestTellingChangesNothing: rule 7.
func TestTellingChangesNothing(t *testing.T) {
	wantUnchanged(t, "rule 7: telling", func(m *link.Mux) {
		for range 3 {
			for p := -1; p <= api.MaxNodes; p++ {
				look(m, p)
				m.Tag()
			}
		}
	})
}

// TestMuxesApart: what a Mux answers hangs on the calls on it alone.
func TestMuxesApart(t *testing.T) {
	wantUnchanged(t, "rule 6: calls on another Mux", func(*link.Mux) {
		other := busy(t)
		push(t, other, 0, "q")
		acked(t, other, 3, 2)
		take(t, other, 0, 2, "B", "B C")
		reset(t, other, tagU, 1, 3)
		push(t, other, 1, "q")
	})
}

func heapInUse() int {
	runtime.GC()
	var s runtime.MemStats
	runtime.ReadMemStats(&s)
	return int(s.HeapAlloc)
}

// TestKeepsLittle: pieces that are answered or handed out leave nothing behind (P12, and what is kept is no more than is needed).
func TestKeepsLittle(t *testing.T) {
	a, b := joined(t, 2, 0, 1, 1, 1), joined(t, 2, 1, 1, 1, 0)
	before := heapInUse()
	const pieces = 200000
	body := make([]byte, api.MaxItem)
	for range pieces {
		if e := a.Push(1, body); e != api.OK {
			t.Fatalf("L3: Push: error %d", e)
		}
		b.Take(0, a.Frames(1)[0])
		ack, _ := b.Owed(0)
		a.Acked(1, ack)
	}
	if grown := heapInUse() - before; grown > 1<<20 {
		t.Errorf("rule 8: behind %d pieces %d bytes more are kept", pieces, grown)
	}
	wantNumbers(t, a, 1, numbers{sent: pieces, room: 1})
	wantNumbers(t, b, 0, numbers{room: 1, got: pieces})
}

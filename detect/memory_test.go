package detect_test

import (
	"math/rand"
	"runtime"
	"slices"
	"testing"

	"quorate/api"
	"quorate/detect"
)

// scribble writes over a list, its spare room too.
func scribble(l []int) {
	l = l[:cap(l)]
	for i := range l {
		l[i] = 77
	}
}

// TestBeatStays: a beat that is handed in is neither changed nor kept, whether it is taken or refused.
func TestBeatStays(t *testing.T) {
	for _, c := range []struct {
		q, inc, tick int
		want         api.Errno
	}{{0, 4, 9, api.OK}, {1, 2, 1, api.OK}, {4, 1, 0, api.OK}, {3, 6, 0, api.OK}, {0, 3, 9, api.ErrOld}, {0, 4, 8, api.ErrStale}, {2, 7, 9, api.ErrArg}} {
		d, twin := busy(t), busy(t)
		room := []int{1, 2, 7, 4, 5, 6, 6, 6}
		if e := d.Heard(c.q, c.inc, api.Beat{Tick: c.tick, Hears: room[:5]}); e != c.want {
			t.Fatalf("D4: Heard(%d, %d): error %d, want %d", c.q, c.inc, e, c.want)
		}
		if !slices.Equal(room, []int{1, 2, 7, 4, 5, 6, 6, 6}) {
			t.Errorf("rule 5: the list handed in is %v now", room)
		}
		scribble(room)
		wantHeard(t, twin, c.q, c.inc, c.tick, c.want, 1, 2, 7, 4, 5)
		wantSame(t, "rule 5: writing into a beat that was handed in", d, twin)
	}
}

// listsOf are all lists that a detector tells, each once.
func listsOf(d *detect.Detector) [][]int {
	return [][]int{d.Hears(), d.Estimate(), d.Suspects(), d.Beat().Hears}
}

// TestAnswersAreNew: writing into an answer changes nothing that is kept.
func TestAnswersAreNew(t *testing.T) {
	wantUnchanged(t, "rule 5: writing into answers", func(d *detect.Detector) {
		for _, l := range append(listsOf(d), listsOf(d)...) {
			scribble(l)
		}
	})
}

func copyLists(l [][]int) [][]int {
	var own [][]int
	for _, x := range l {
		own = append(own, slices.Clone(x))
	}
	return own
}

func sameLists(a, b [][]int) bool { return slices.EqualFunc(a, b, slices.Equal) }

// TestAnswersStay: no later call changes what was answered, and no two answers share memory.
func TestAnswersStay(t *testing.T) {
	r := rand.New(rand.NewSource(6))
	for range 40 {
		m := newModel(r)
		d := made(t, m.nodes, m.self, m.inc, m.base, m.step, m.limit)
		var told [][]int
		for range 30 {
			wildStep(t, r, d, m)
			told = append(told, listsOf(d)...)
		}
		asTold := copyLists(told)
		for range 60 {
			wildStep(t, r, d, m)
		}
		if !sameLists(told, asTold) {
			t.Fatalf("rule 5: an answer changed")
		}
		for k := range told {
			scribble(told[k])
			if !sameLists(told[k+1:], asTold[k+1:]) {
				t.Fatalf("rule 5: two answers share memory")
			}
		}
	}
}

// TestTellingChangesNothing: rule 7.
func TestTellingChangesNothing(t *testing.T) {
	wantUnchanged(t, "rule 7: telling", func(d *detect.Detector) {
		for range 3 {
			look(d)
		}
	})
}

// TestDetectorsApart: what a detector answers hangs on the calls on it alone.
func TestDetectorsApart(t *testing.T) {
	wantUnchanged(t, "rule 6: calls on another detector", func(*detect.Detector) {
		other := busy(t)
		hear(t, other, 4, 1, 1, 0, 0, 7, 0, 0)
		hear(t, other, 1, 2, 1, 0, 0, 7, 0, 0)
		hear(t, other, 0, 9, 1, 0, 0, 7, 0, 0)
		ticks(other, 5)
		other.Leave()
	})
}

func heapInUse() int {
	runtime.GC()
	var s runtime.MemStats
	runtime.ReadMemStats(&s)
	return int(s.HeapAlloc)
}

// TestKeepsLittle: beats and ticks that have gone by leave nothing behind (P12).
func TestKeepsLittle(t *testing.T) {
	d := made(t, 2, 0, 1, 1, 1, 2)
	before := heapInUse()
	const beats = 200000
	hears := []int{1, 1}
	for k := range beats {
		if e := d.Heard(1, 1+k/1000, api.Beat{Tick: k, Hears: hears}); e != api.OK {
			t.Fatalf("D4: Heard: error %d", e)
		}
		ticks(d, 1+k%4)
	}
	if grown := heapInUse() - before; grown > 1<<20 {
		t.Errorf("rule 8: behind %d beats %d bytes more are kept", beats, grown)
	}
	wantNumbers(t, d, 1, beats/1000, 2, d.Wrong(1))
}

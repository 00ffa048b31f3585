package frag_test

import (
	"bytes"
	"runtime"
	"testing"

	"quorate/api"
	"quorate/frag"
)

// roomy is the same list with room behind it that is not the callee's to write.
func roomy(b []byte) []byte {
	wide := append(bytes.Clone(b), "not yours to write"...)
	return wide[:len(b)]
}

// full is a list with its spare room.
func full(b []byte) []byte { return b[:cap(b)] }

// scribble writes over a list and its spare room.
func scribble(b []byte) {
	for i := range full(b) {
		full(b)[i] ^= 0x5a
	}
}

// copies are what lists and their spare room hold now.
func copies(l [][]byte) [][]byte {
	var list [][]byte
	for _, b := range l {
		list = append(list, bytes.Clone(full(b)))
	}
	return list
}

func wantSameBytes(t *testing.T, what string, l, before [][]byte) {
	t.Helper()
	for i, b := range l {
		if !bytes.Equal(full(b), before[i]) {
			t.Fatalf("%s: list %d changed", what, i)
		}
	}
}

// wantApart writes over one list behind the other, and looks whether another one changes with it.
func wantApart(t *testing.T, what string, l [][]byte) {
	t.Helper()
	for i, b := range l {
		rest := copies(l[i+1:])
		scribble(b)
		wantSameBytes(t, what, l[i+1:], rest)
	}
	for i := len(l) - 1; i >= 0; i-- {
		rest := copies(l[:i])
		scribble(l[i])
		wantSameBytes(t, what, l[:i], rest)
	}
}

// TestSplitMemory: 9.2, of Split.
func TestSplitMemory(t *testing.T) {
	for _, size := range sizes() {
		blob := roomy(pattern(size))
		before := bytes.Clone(full(blob))
		l := split(t, blob)
		again := split(t, blob)
		if !bytes.Equal(full(blob), before) {
			t.Fatalf("9.2: Split changed its blob of %d bytes", size)
		}
		told := copies(l)
		scribble(blob)
		wantSameBytes(t, "9.2: writing into a blob that was handed in", l, told)
		wantApart(t, "9.2: chunks share memory", append(append(l, again...), blob))
	}
}

// TestSplitLists: two answers' lists of chunks are apart too, with their spare room.
func TestSplitLists(t *testing.T) {
	l, again := split(t, pattern(1000)), split(t, pattern(1000))
	for i := range l[:cap(l)] {
		l[:cap(l)][i] = nil
	}
	for i, c := range chunksOf(pattern(1000)) {
		if !bytes.Equal(again[i], c) {
			t.Fatalf("9.2: the lists of two answers share memory")
		}
	}
}

// TestAppend: appending to a chunk never runs into the next.
func TestAppend(t *testing.T) {
	for _, size := range sizes() {
		l := split(t, pattern(size))
		for i, c := range l {
			for n := range 12 {
				_ = append(c, make([]byte, n*n+1)...)
			}
			if want := chunksOf(pattern(size)); i+1 < len(l) && !bytes.Equal(l[i+1], want[i+1]) {
				t.Fatalf("9.2: of %d bytes: appending to chunk %d changed the next", size, i)
			}
		}
	}
}

// TestTakeMemory: 9.2, of Take: what is handed in is neither changed nor kept, whether it is taken or refused.
func TestTakeMemory(t *testing.T) {
	for _, size := range sizes() {
		j := made(t, 2)
		blob := pattern(size)
		l := chunksOf(blob)
		for i, c := range l {
			for _, bad := range [][]byte{nil, c[:len(c)-1], append(bytes.Clone(c), 0), make([]byte, 300)} {
				b := roomy(bad)
				before := bytes.Clone(full(b))
				j.Take(0, b)
				j.Take(2, b)
				if !bytes.Equal(full(b), before) {
					t.Fatal("9.2: Take changed a list that it refused")
				}
				scribble(b)
			}
			mine := roomy(c)
			before := bytes.Clone(full(mine))
			got, whole, e := j.Take(0, mine)
			if !bytes.Equal(full(mine), before) {
				t.Fatalf("9.2: Take changed its chunk")
			}
			scribble(mine)
			if e != api.OK || whole != (i == len(l)-1) || whole && !bytes.Equal(got, blob) {
				t.Fatalf("9.2: blob of %d bytes: behind writing into chunks that were handed in: %v, error %d", size, whole, e)
			}
		}
	}
}

// TestAnswersApart: blobs that come out share no memory with one another, nor with what is held.
func TestAnswersApart(t *testing.T) {
	j := made(t, 2)
	var blobs [][]byte
	for _, size := range []int{0, 1, 9, 247, 248, 249, 496, 497, 1000, 3968, 4000} {
		l := chunksOf(pattern(size))
		wantOn(t, j, 1, chunksOf(pattern(4000))[0])
		for _, p := range []int{0, 0, 1} {
			for _, c := range l {
				mine := roomy(c)
				blob, whole, _ := j.Take(p, mine)
				blobs = append(blobs, mine)
				if whole {
					blobs = append(blobs, blob)
				}
			}
		}
	}
	wantApart(t, "9.2: blobs share memory", blobs)

	whole := split(t, pattern(600))
	for range 3 {
		wantOn(t, j, 0, whole[0])
		wantOn(t, j, 0, whole[1])
		blob, _, _ := j.Take(0, whole[2])
		wantOn(t, j, 0, whole[0])
		wantOn(t, j, 1, whole[0])
		scribble(blob)
		for p := range 2 {
			wantOn(t, j, p, whole[1])
			wantBlob(t, j, p, whole[2], pattern(600))
		}
	}
}

// TestOnlyItsOwnCalls: rules 6 and 7: other joiners, asking and splitting change nothing.
func TestOnlyItsOwnCalls(t *testing.T) {
	j, other := made(t, 2), made(t, 2)
	l := split(t, pattern(600))
	for i, c := range l {
		for k := range l {
			other.Take(0, l[k])
			other.Take(1, l[i])
		}
		split(t, pattern(1234))
		allHeld(j)
		frag.Count(600)
		other.Reset()
		if i < len(l)-1 {
			wantOn(t, j, 0, c)
		} else {
			wantBlob(t, j, 0, c, pattern(600))
		}
	}
}

func heapInUse() int {
	runtime.GC()
	var s runtime.MemStats
	runtime.ReadMemStats(&s)
	return int(s.HeapAlloc)
}

// TestKeepsLittle: P12: a joiner keeps no more than a blob of each sender, whatever was taken, and nothing of what is over.
func TestKeepsLittle(t *testing.T) {
	l := split(t, pattern(4000))
	before := heapInUse()
	var full, spent, reset []*frag.Joiner
	for range 50 {
		a, b, c := made(t, api.MaxNodes), made(t, api.MaxNodes), made(t, api.MaxNodes)
		for p := range api.MaxNodes {
			for range 3 {
				for _, x := range l[:16] {
					wantOn(t, a, p, x)
					wantOn(t, b, p, x)
					wantOn(t, c, p, x)
				}
			}
			wantBlob(t, b, p, l[16], pattern(4000))
		}
		c.Reset()
		full, spent, reset = append(full, a), append(spent, b), append(reset, c)
	}
	withFull := heapInUse() - before
	runtime.KeepAlive(full)
	full = nil
	withSpent := heapInUse() - before
	if most := 50 * api.MaxNodes * 5000; withFull > most {
		t.Errorf("P12: joiners keep %d bytes, more than %d", withFull, most)
	}
	if most := 100 * api.MaxNodes * 250; withSpent > most {
		t.Errorf("rule 8: joiners that hold nothing keep %d bytes, more than %d", withSpent, most)
	}
	runtime.KeepAlive(spent)
	runtime.KeepAlive(reset)
}

// TestKeepsNoArgument: a chunk may be the beginning of something great that is not to be kept alive.
func TestKeepsNoArgument(t *testing.T) {
	first := split(t, pattern(249))[0]
	var l []*frag.Joiner
	before := heapInUse()
	for range 40 {
		wide := make([]byte, 1<<20)
		copy(wide, first)
		j := made(t, 1)
		wantOn(t, j, 0, wide[:len(first)])
		l = append(l, j)
	}
	if grown := heapInUse() - before; grown > 8<<20 {
		t.Errorf("rule 5: of chunks that were handed in %d bytes are kept", grown)
	}
	runtime.KeepAlive(l)
}

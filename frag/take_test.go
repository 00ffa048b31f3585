package frag_test

import (
	"testing"

	"quorate/api"
	"quorate/frag"
)

// TestNew: P9.3.
func TestNew(t *testing.T) {
	for _, nodes := range append(far(), 0, -2, 17, 18, 255, 256) {
		if j, e := frag.New(nodes); j != nil || e != api.ErrArg {
			t.Errorf("P9.3: New(%d): %v, error %d, want nil and %d", nodes, j, e, api.ErrArg)
		}
	}
	for nodes := 1; nodes <= api.MaxNodes; nodes++ {
		j := made(t, nodes)
		if allHeld(j) != [api.MaxNodes]int{} {
			t.Errorf("P9.3: New(%d) holds %v", nodes, allHeld(j))
		}
		for p := range nodes {
			wantRefused(t, j, p, split(t, pattern(249))[1], api.ErrChunk)
			wantThrough(t, j, p, pattern(500))
		}
		wantRefused(t, j, nodes, split(t, pattern(5))[0], api.ErrArg)
	}
}

// TestSender: P9.4, 1; and it is asked ahead of the chunk's form.
func TestSender(t *testing.T) {
	for _, nodes := range []int{1, 3, 16} {
		j := made(t, nodes)
		l := split(t, pattern(600))
		wantOn(t, j, 0, l[0])
		for _, p := range append(far(), nodes, nodes+1, -nodes) {
			wantHeld(t, j, p, 0)
			for _, c := range [][]byte{l[0], l[1], nil, make([]byte, 7), make([]byte, 8), make([]byte, 500)} {
				wantRefused(t, j, p, c, api.ErrArg)
			}
		}
		wantOn(t, j, 0, l[1])
		wantBlob(t, j, 0, l[2], pattern(600))
	}
}

// hasForm: 9.1 in its own words.
func hasForm(b []byte) bool {
	if len(b) < 8 {
		return false
	}
	size, place := int(b[0])*256+int(b[1]), int(b[2])*256+int(b[3])
	if size > 4000 || place%248 != 0 || !(place < size || place == 0 && size == 0) {
		return false
	}
	return len(b)-8 == min(248, size-place)
}

// edgeFields are numbers of two bytes about which a form can be wrong.
func edgeFields() []int {
	return []int{0, 1, 2, 247, 248, 249, 255, 256, 257, 495, 496, 497, 3719, 3720, 3721, 3967, 3968, 3969, 3999, 4000, 4001, 4215, 4216, 4217, 32768, 65472, 65534, 65535}
}

// TestForm: P9.4, 2: lists about every edge of a chunk's form, ahead of anything and in the midst of a blob. What begins at place 0 would let the blob be forgotten.
func TestForm(t *testing.T) {
	l := split(t, pattern(600))
	forms := 0
	for _, size := range edgeFields() {
		for _, place := range edgeFields() {
			for _, n := range []int{0, 1, 2, 31, 32, 33, 247, 248, 249, 256, size - place - 1, size - place, size - place + 1} {
				if n < 0 || n > 5000 {
					continue
				}
				c := chunk(size, place, sumOf(pattern(600)), make([]byte, n))
				if hasForm(c) {
					forms++
					continue
				}
				j := made(t, 1)
				wantRefused(t, j, 0, c, api.ErrChunk)
				wantOn(t, j, 0, l[0])
				wantRefused(t, j, 0, c, api.ErrChunk)
				wantOn(t, j, 0, l[1])
				wantRefused(t, j, 0, c, api.ErrChunk)
				wantBlob(t, j, 0, l[2], pattern(600))
			}
		}
	}
	if forms < 50 {
		t.Errorf("only %d lists had a chunk's form", forms)
	}
}

// TestShort: lists of fewer than eight bytes, and chunks that have lost or won something at their end.
func TestShort(t *testing.T) {
	j := made(t, 2)
	l := split(t, pattern(600))
	wantOn(t, j, 0, l[0])
	for n := range 8 {
		wantRefused(t, j, 0, make([]byte, n), api.ErrChunk)
		wantRefused(t, j, 0, l[1][:n], api.ErrChunk)
		wantRefused(t, j, 0, l[0][:n], api.ErrChunk)
	}
	for n := range len(l[1]) {
		wantRefused(t, j, 0, l[1][:n], api.ErrChunk)
		wantRefused(t, j, 0, l[0][:n], api.ErrChunk)
		wantRefused(t, j, 0, append(l[1], make([]byte, n+1)...), api.ErrChunk)
		wantRefused(t, j, 0, append(l[0], make([]byte, n+1)...), api.ErrChunk)
	}
	wantOn(t, j, 0, l[1])
	for n := range len(l[2]) {
		wantRefused(t, j, 0, l[2][:n], api.ErrChunk)
	}
	wantRefused(t, j, 0, append(l[2], 0), api.ErrChunk)
	wantRefused(t, j, 0, nil, api.ErrChunk)
	wantBlob(t, j, 0, l[2], pattern(600))
}

// TestEveryForm: all that have a chunk's form can stand somewhere.
func TestEveryForm(t *testing.T) {
	j := made(t, 1)
	for _, size := range sizes() {
		wantThrough(t, j, 0, pattern(size))
		wantThrough(t, j, 0, make([]byte, size))
	}
}

// TestFirst: P9.4, 3: a first chunk lets what is held be forgotten, whatever becomes of its own blob.
func TestFirst(t *testing.T) {
	old, other := split(t, pattern(900)), split(t, make([]byte, 900))
	held := func() *frag.Joiner {
		j := made(t, 2)
		for i := range 2 {
			wantOn(t, j, 0, old[i])
			wantOn(t, j, 1, old[i])
		}
		return j
	}
	j := held()
	wantOn(t, j, 0, old[0]) // the same blob from its beginning
	wantHeld(t, j, 0, 248)
	wantRefused(t, j, 0, old[2], api.ErrChunk)
	wantOn(t, j, 0, old[1])

	j = held()
	wantOn(t, j, 0, other[0]) // another of the same length
	wantRefused(t, j, 0, old[1], api.ErrChunk)
	wantRefused(t, j, 0, old[2], api.ErrChunk)
	wantOn(t, j, 0, other[1])

	for _, blob := range [][]byte{nil, pattern(1), pattern(248)} { // one that is whole at once
		j = held()
		wantBlob(t, j, 0, split(t, blob)[0], blob)
		wantRefused(t, j, 0, old[2], api.ErrChunk)

		j = held() // and one that is whole and wrong
		wantAnswer(t, j, 0, chunk(len(blob), 0, sumOf(blob)^1, blob), nil, false, api.ErrChunk)
		wantHeld(t, j, 0, 0)
		wantRefused(t, j, 0, old[2], api.ErrChunk)
		wantThrough(t, j, 0, pattern(900))

		wantHeld(t, j, 1, 496)
		wantOn(t, j, 1, old[2])
		wantBlob(t, j, 1, old[3], pattern(900))
	}
}

// TestNoneHeld: P9.4, 4: where nothing is held no chunk but a first one stands.
func TestNoneHeld(t *testing.T) {
	j := made(t, 1)
	refuse := func() {
		t.Helper()
		for _, size := range sizes() {
			for _, c := range split(t, pattern(size))[1:] {
				wantRefused(t, j, 0, c, api.ErrChunk)
			}
		}
		for _, c := range chunksOf(make([]byte, 4000))[1:] {
			wantRefused(t, j, 0, chunk(4000, int(c[2])*256+int(c[3]), 0, c[8:]), api.ErrChunk)
		}
	}
	refuse()
	wantThrough(t, j, 0, pattern(700))
	refuse()
	wantThrough(t, j, 0, nil)
	refuse()
	wantOn(t, j, 0, split(t, pattern(700))[0])
	j.Reset()
	refuse()
}

// TestNotNext: P9.4, 4: another length, another sum, another place.
func TestNotNext(t *testing.T) {
	blob := pattern(4000)
	sum := sumOf(blob)
	l := split(t, blob)
	j := made(t, 1)
	wantOn(t, j, 0, l[0])
	for i := 1; i < len(l); i++ {
		piece := l[i][8:]
		for _, size := range []int{i*248 + 1, i*248 + 100, i*248 + 248, i*248 + 249, 3999} {
			if size < 4000 && size > i*248 {
				wantRefused(t, j, 0, chunk(size, i*248, sum, pattern(min(248, size-i*248))), api.ErrChunk)
			}
		}
		for bit := range 32 {
			wantRefused(t, j, 0, chunk(4000, i*248, sum^1<<bit, piece), api.ErrChunk)
		}
		wantRefused(t, j, 0, chunk(4000, i*248, 0, piece), api.ErrChunk)
		for k := 1; k < len(l); k++ {
			if k != i {
				wantRefused(t, j, 0, l[k], api.ErrChunk)
			}
		}
		if i == len(l)-1 {
			wantBlob(t, j, 0, l[i], blob)
		} else {
			wantOn(t, j, 0, l[i])
		}
	}
}

// TestWrongSum: a blob that is whole and has another sum is not held any more.
func TestWrongSum(t *testing.T) {
	j := made(t, 2)
	for _, size := range []int{0, 1, 9, 248, 249, 496, 700, 4000} {
		blob := pattern(size)
		for bit := range 32 {
			for i, c := range chunksOf(blob) {
				wantHeld(t, j, 0, i*248)
				c[7-bit/8] ^= 1 << (bit % 8)
				want := api.OK
				if (i+1)*248 >= size {
					want = api.ErrChunk
				}
				wantAnswer(t, j, 0, c, nil, false, want)
			}
			wantHeld(t, j, 0, 0)
		}
		wantThrough(t, j, 0, blob)
	}
}

// TestDamage: no single bit of a blob's pieces may turn on the way.
func TestDamage(t *testing.T) {
	for _, size := range []int{1, 9, 248, 249, 500} {
		blob := pattern(size)
		j := made(t, 1)
		for k := range size * 8 {
			for i, c := range chunksOf(blob) {
				if k/8/248 == i {
					c[8+k/8%248] ^= 1 << (k % 8)
				}
				want := api.OK
				if (i+1)*248 >= size {
					want = api.ErrChunk
				}
				wantAnswer(t, j, 0, c, nil, false, want)
			}
			wantHeld(t, j, 0, 0)
		}
		wantThrough(t, j, 0, blob)
	}
}

// TestApart: what is held of one sender is not touched by another's chunks. The blobs have 4000 bytes to 3880, so that some end a chunk earlier.
func TestApart(t *testing.T) {
	j := made(t, api.MaxNodes)
	var want [api.MaxNodes]int
	for i := range 17 {
		for p := range api.MaxNodes {
			blob := pattern(4000)[p*8:]
			l := split(t, blob)
			switch {
			case i < len(l)-1:
				wantOn(t, j, p, l[i])
				want[p] += 248
			case i == len(l)-1:
				wantBlob(t, j, p, l[i], blob)
				want[p] = 0
			default:
				wantRefused(t, j, p, l[i-1], api.ErrChunk)
			}
			if allHeld(j) != want {
				t.Fatalf("P9.4, P9.5: behind chunk %d of sender %d Held tells %v, want %v", i, p, allHeld(j), want)
			}
		}
	}
}

// TestHeld: P9.5, up to the most that can be held.
func TestHeld(t *testing.T) {
	j := made(t, 3)
	for _, size := range []int{3969, 3999, 4000} {
		l := split(t, pattern(size))
		for i, c := range l[:16] {
			wantOn(t, j, 2, c)
			wantHeld(t, j, 2, (i+1)*248)
		}
		wantHeld(t, j, 2, 3968)
		wantHeld(t, j, 0, 0)
		wantHeld(t, j, 1, 0)
		for _, p := range append(far(), 3, 16) {
			wantHeld(t, j, p, 0)
		}
		wantBlob(t, j, 2, l[16], pattern(size))
	}
}

// TestReset: P9.6.
func TestReset(t *testing.T) {
	j := made(t, 4)
	j.Reset()
	l := split(t, pattern(1000))
	for p := range 4 {
		for _, c := range l[:p] {
			wantOn(t, j, p, c)
		}
	}
	j.Reset()
	if allHeld(j) != [api.MaxNodes]int{} {
		t.Fatalf("P9.6: behind Reset %v is held", allHeld(j))
	}
	for p := range 4 {
		for _, c := range l[1:] {
			wantRefused(t, j, p, c, api.ErrChunk)
		}
		wantThrough(t, j, p, pattern(1000))
	}
	wantRefused(t, j, 4, l[0], api.ErrArg)
}

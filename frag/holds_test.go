package frag_test

import (
	"bytes"
	"math/rand"
	"testing"

	"quorate/api"
	"quorate/frag"
)

// disturb does something to a sender that leaves it in whatever state.
func disturb(r *rand.Rand, j *frag.Joiner, p int) {
	l := chunksOf(randomBytes(r, r.Intn(api.MaxBlob+1)))
	for _, c := range l[:r.Intn(len(l)+1)] {
		j.Take(p, c)
	}
	if r.Intn(4) == 0 {
		j.Take(p, randomBytes(r, r.Intn(20)))
	}
	if r.Intn(10) == 0 {
		j.Reset()
	}
}

// TestThereAndBack: P9.7, blobs of every size, whatever was held.
func TestThereAndBack(t *testing.T) {
	r := rand.New(rand.NewSource(1))
	j := made(t, 2)
	for size := range api.MaxBlob + 1 {
		if size%5 == 0 {
			disturb(r, j, 1)
		}
		wantThrough(t, j, 1, randomBytes(r, size))
	}
}

// way is one sender's blob on its way.
type way struct {
	blob   []byte
	chunks [][]byte
	at     int // how many of them were taken
}

// TestBetween: P9.7, the chunks of all senders in between one another, in any mixture.
func TestBetween(t *testing.T) {
	r := rand.New(rand.NewSource(2))
	for _, nodes := range []int{2, 5, api.MaxNodes} {
		j := made(t, nodes)
		for p := range nodes {
			disturb(r, j, p)
		}
		ways, whole := make([]way, nodes), 0
		for range 6000 {
			p := r.Intn(nodes)
			w := &ways[p]
			if w.at == len(w.chunks) {
				blob := randomBytes(r, r.Intn(api.MaxBlob+1))
				*w = way{blob: blob, chunks: split(t, blob)}
			}
			c := w.chunks[w.at]
			w.at++
			if w.at < len(w.chunks) {
				wantOn(t, j, p, c)
			} else {
				wantBlob(t, j, p, c, w.blob)
				whole++
			}
		}
		if whole < 100 {
			t.Errorf("only %d blobs were whole", whole)
		}
	}
}

// TestOnlyTold: P9.8, with pieces from everywhere: what comes out is what the taken chunks told, piece by piece.
func TestOnlyTold(t *testing.T) {
	r := rand.New(rand.NewSource(3))
	const nodes = 3
	j := made(t, nodes)
	told := make([][]byte, nodes) // by sender: the pieces taken without an error from the latest first chunk on
	pool := chunkPool(r)
	whole, wrong := 0, 0
	for range 200000 {
		p, c := r.Intn(nodes), pool(r)
		blob, ok, e := j.Take(p, c)
		isFirst := hasForm(c) && c[2] == 0 && c[3] == 0
		if isFirst {
			told[p] = nil
		}
		if e == api.OK {
			told[p] = append(told[p], c[8:]...)
		} else {
			wrong++
		}
		if ok != (e == api.OK && len(told[p]) == int(c[0])*256+int(c[1])) {
			t.Fatalf("P9.8: Take(%d, % x ..) = %v, error %d behind %d bytes", p, shown(c), ok, e, len(told[p]))
		}
		if !ok && len(blob) > 0 {
			t.Fatalf("P9.8: a blob of %d bytes beside false", len(blob))
		}
		if !ok {
			continue
		}
		whole++
		sum := int(c[4])<<24 | int(c[5])<<16 | int(c[6])<<8 | int(c[7])
		if len(blob) != int(c[0])*256+int(c[1]) || sumOf(blob) != sum || !bytes.Equal(blob, told[p]) {
			t.Fatalf("P9.8: % x .. of %d bytes comes out behind % x .., told were % x .. of %d", shown(blob), len(blob), shown(c), shown(told[p]), len(told[p]))
		}
	}
	if whole < 1000 || wrong < 1000 {
		t.Errorf("the chunks are too tame: %d blobs came out, %d were refused", whole, wrong)
	}
}

// chunkPool gives what draws chunks of few blobs, some of them damaged or with another's piece, so that they often fit together.
func chunkPool(r *rand.Rand) func(r *rand.Rand) []byte {
	var l [][]byte
	for _, size := range []int{0, 1, 248, 249, 250, 400, 496, 497, 500} {
		for range 2 {
			l = append(l, chunksOf(randomBytes(r, size))...)
		}
	}
	return func(r *rand.Rand) []byte {
		c := bytes.Clone(l[r.Intn(len(l))])
		switch r.Intn(12) {
		case 0:
			c[r.Intn(len(c))] ^= 1 << r.Intn(8)
		case 1:
			c = append(c[:8], l[r.Intn(len(l))][8:]...)
		case 2:
			c = c[:r.Intn(len(c)+1)]
		case 3:
			c[4], c[5], c[6], c[7] = 0, 0, 0, 0
		case 4:
			return randomBytes(r, r.Intn(300))
		}
		return c
	}
}

// wantNoBlob takes all chunks but one, and no blob may come out.
func wantNoBlob(t *testing.T, j *frag.Joiner, p int, l [][]byte, without int) {
	t.Helper()
	for i, c := range l {
		if i == without {
			continue
		}
		if blob, ok, _ := j.Take(p, c); ok || len(blob) > 0 {
			t.Fatalf("P9.9: of %d chunks without chunk %d a blob of %d bytes comes out at chunk %d", len(l), without, len(blob), i)
		}
	}
}

// TestGap: P9.9, each chunk of blobs of all counts left out; of blobs of zeros too, whose pieces are alike.
func TestGap(t *testing.T) {
	r := rand.New(rand.NewSource(4))
	j := made(t, 1)
	for _, size := range sizes() {
		if size <= 248 {
			continue
		}
		for _, blob := range [][]byte{pattern(size), make([]byte, size), randomBytes(r, size)} {
			l := split(t, blob)
			for without := range l {
				wantNoBlob(t, made(t, 1), 0, l, without)
				j.Reset()
				wantNoBlob(t, j, 0, l, without)
				wantThrough(t, j, 0, blob) // behind a whole blob nothing is held either
				wantNoBlob(t, j, 0, l, without)
			}
		}
	}
}

// TestGapGoesOn: behind a gap the chunks are refused, and what is held stays until the missing one comes or a new blob begins.
func TestGapGoesOn(t *testing.T) {
	l := split(t, pattern(1200))
	for without := 1; without < len(l); without++ {
		j := made(t, 1)
		for _, c := range l[:without] {
			wantOn(t, j, 0, c)
		}
		for _, c := range l[without+1:] {
			wantRefused(t, j, 0, c, api.ErrChunk)
		}
		wantHeld(t, j, 0, without*248)
		for _, c := range l[without : len(l)-1] {
			wantOn(t, j, 0, c)
		}
		wantBlob(t, j, 0, l[len(l)-1], pattern(1200))
	}
}

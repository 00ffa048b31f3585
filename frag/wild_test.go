package frag_test

import (
	"bytes"
	"math/rand"
	"testing"

	"quorate/api"
	"quorate/frag"
)

// partial is what the model holds of a sender.
type partial struct {
	size, sum int
	bytes     []byte
}

// model is a joiner in the chapter's own words.
type model struct {
	nodes int
	held  map[int]partial
}

func (m *model) take(sender int, c []byte) ([]byte, bool, api.Errno) {
	if sender < 0 || sender >= m.nodes {
		return nil, false, api.ErrArg
	}
	if !hasForm(c) {
		return nil, false, api.ErrChunk
	}
	size, place := int(c[0])<<8+int(c[1]), int(c[2])<<8+int(c[3])
	sum := int(c[4])<<24 + int(c[5])<<16 + int(c[6])<<8 + int(c[7])
	if place == 0 {
		delete(m.held, sender)
		m.held[sender] = partial{size: size, sum: sum, bytes: bytes.Clone(c[8:])}
	} else {
		h, there := m.held[sender]
		if !there || h.size != size || h.sum != sum || len(h.bytes) != place {
			return nil, false, api.ErrChunk
		}
		h.bytes = append(h.bytes, c[8:]...)
		m.held[sender] = h
	}
	h := m.held[sender]
	if len(h.bytes) < h.size {
		return nil, false, api.OK
	}
	delete(m.held, sender)
	if sumOf(h.bytes) != sum {
		return nil, false, api.ErrChunk
	}
	return h.bytes, true, api.OK
}

// wildChunks draws chunks that often go on with what is held, and lists that are none.
func wildChunks(r *rand.Rand, m *model, sender int) []byte {
	h, there := m.held[sender]
	if there && r.Intn(3) > 0 {
		place := len(h.bytes)
		c := chunk(h.size, place, h.sum, randomBytes(r, min(248, h.size-place)))
		return wildly(r, c)
	}
	blob := randomBytes(r, []int{0, 1, 247, 248, 249, 496, 497, 744, 745, 3968, 3969, 4000}[r.Intn(12)])
	l := chunksOf(blob)
	if there && r.Intn(2) == 0 {
		l = chunksOf(h.bytes)
	}
	return wildly(r, l[r.Intn(len(l))])
}

// wildly damages some.
func wildly(r *rand.Rand, c []byte) []byte {
	switch r.Intn(12) {
	case 0:
		c[r.Intn(8)] ^= 1 << r.Intn(8)
	case 1:
		c[r.Intn(len(c))] = byte(r.Intn(256))
	case 2:
		c = c[:r.Intn(len(c)+1)]
	case 3:
		c = append(c, randomBytes(r, 1+r.Intn(9))...)
	case 4:
		return randomBytes(r, r.Intn(300))
	}
	return c
}

// TestModel holds joiners against the model at calls of all kinds.
func TestModel(t *testing.T) {
	var answers [3]int // refused, going on, whole
	for seed := range 60 {
		r := rand.New(rand.NewSource(int64(seed)))
		nodes := 1 + r.Intn(api.MaxNodes)
		j, m := made(t, nodes), &model{nodes: nodes, held: map[int]partial{}}
		var way [api.MaxNodes + 1][][]byte // chunks of blobs that are let through
		for range 2000 {
			if r.Intn(300) == 0 {
				j.Reset()
				clear(m.held)
			}
			p := r.Intn(nodes + 1)
			c := wildChunks(r, m, p)
			if r.Intn(10) > 0 {
				if len(way[p]) == 0 {
					way[p] = chunksOf(randomBytes(r, r.Intn(1200)))
				}
				c, way[p] = way[p][0], way[p][1:]
			}
			want, wantWhole, wantE := m.take(p, c)
			got, whole, e := j.Take(p, c)
			if e != wantE || whole != wantWhole || !bytes.Equal(got, want) {
				t.Fatalf("P9.4: Take(%d, % x .. of %d bytes) = %d bytes, %v, error %d, want %d, %v, error %d", p, shown(c), len(c), len(got), whole, e, len(want), wantWhole, wantE)
			}
			for q := -1; q <= api.MaxNodes; q++ {
				if j.Held(q) != len(m.held[q].bytes) || j.Held(q) > 3968 {
					t.Fatalf("P9.5: Held(%d) = %d, want %d", q, j.Held(q), len(m.held[q].bytes))
				}
			}
			answers[kindOf(whole, e)]++
		}
	}
	for k, n := range answers {
		if n < 2000 {
			t.Errorf("the calls are too tame: %d answers of kind %d", n, k)
		}
	}
}

func kindOf(whole bool, e api.Errno) int {
	switch {
	case e != api.OK:
		return 0
	case whole:
		return 2
	}
	return 1
}

// FuzzTake: whatever lists are taken, the joiner and the model answer alike.
func FuzzTake(f *testing.F) {
	for _, size := range []int{0, 9, 249, 497} {
		for _, c := range chunksOf(pattern(size)) {
			f.Add(0, c, c)
			f.Add(1, chunksOf(pattern(size))[0], c)
		}
	}
	f.Add(-1, []byte(nil), make([]byte, 7))
	f.Fuzz(func(t *testing.T, sender int, a, b []byte) {
		j, e := frag.New(2)
		if e != api.OK {
			t.Fatalf("P9.3: error %d", e)
		}
		m := &model{nodes: 2, held: map[int]partial{}}
		for _, c := range [][]byte{a, b, a, a, b, b} {
			want, wantWhole, wantE := m.take(sender, c)
			got, whole, e := j.Take(sender, c)
			if e != wantE || whole != wantWhole || !bytes.Equal(got, want) || j.Held(sender) != len(m.held[sender].bytes) {
				t.Fatalf("P9.4: Take(%d, % x .. of %d bytes) = %d bytes, %v, error %d, want %d, %v, error %d", sender, shown(c), len(c), len(got), whole, e, len(want), wantWhole, wantE)
			}
		}
	})
}

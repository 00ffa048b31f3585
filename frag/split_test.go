package frag_test

import (
	"bytes"
	"slices"
	"testing"

	"quorate/api"
	"quorate/frag"
)

// TestCount: P9.1, every size that a blob may have and those beside.
func TestCount(t *testing.T) {
	want := 1
	for size := range api.MaxBlob + 1 {
		if size > 248 && size%248 == 1 {
			want++
		}
		if n := frag.Count(size); n != want {
			t.Fatalf("P9.1: Count(%d) = %d, want %d", size, n, want)
		}
	}
	for _, size := range append(far(), -2, -248, -249, 4001, 4002, 4216, 4217, 65535) {
		if n := frag.Count(size); n != 0 {
			t.Errorf("P9.1: Count(%d) = %d, want 0", size, n)
		}
	}
}

// TestSplit: P9.2, every size that a blob may have.
func TestSplit(t *testing.T) {
	for size := range api.MaxBlob + 1 {
		blob := pattern(size)
		l := split(t, blob)
		if !slices.EqualFunc(l, chunksOf(blob), bytes.Equal) {
			t.Fatalf("P9.2: of %d bytes: % x", size, l)
		}
		if len(l) != frag.Count(size) {
			t.Fatalf("P9.2: %d chunks of %d bytes, Count says %d", len(l), size, frag.Count(size))
		}
	}
}

// TestSplitNone: nil and an empty list are the same.
func TestSplitNone(t *testing.T) {
	for _, blob := range [][]byte{nil, {}, pattern(20)[:0]} {
		if l := split(t, blob); len(l) != 1 || !bytes.Equal(l[0], make([]byte, 8)) {
			t.Errorf("P9.2: of an empty blob: % x", l)
		}
	}
}

// TestSplitLong: P9.2, blobs that are too long.
func TestSplitLong(t *testing.T) {
	for _, size := range []int{4001, 4002, 4215, 4216, 4217, 65535, 65536, 65537, 1 << 20} {
		if l, e := frag.Split(make([]byte, size)); len(l) > 0 || e != api.ErrBlob {
			t.Errorf("P9.2: of %d bytes: %d chunks, error %d, want none and %d", size, len(l), e, api.ErrBlob)
		}
	}
}

// TestChunkBounds: 9.1, a chunk has 8 to 256 bytes, and the group's messages have room for it.
func TestChunkBounds(t *testing.T) {
	least, most := 1000, 0
	for size := range api.MaxBlob + 1 {
		for _, c := range split(t, make([]byte, size)) {
			least, most = min(least, len(c)), max(most, len(c))
		}
	}
	if least != 8 || most != api.MaxChunk {
		t.Errorf("9.1: chunks have %d to %d bytes, want 8 to %d", least, most, api.MaxChunk)
	}
}

package frag_test

import (
	"bytes"
	"testing"

	"quorate/api"
	"quorate/frag"
)

// TestExampleCount: section 9.5, 1.
func TestExampleCount(t *testing.T) {
	for _, c := range [][2]int{{0, 1}, {248, 1}, {249, 2}, {4000, 17}, {4001, 0}, {-1, 0}} {
		if n := frag.Count(c[0]); n != c[1] {
			t.Errorf("P9.1: Count(%d) = %d, want %d", c[0], n, c[1])
		}
	}
}

// TestExampleSplit: 2 to 4.
func TestExampleSplit(t *testing.T) {
	if l := split(t, nil); len(l) != 1 || !bytes.Equal(l[0], []byte{0, 0, 0, 0, 0, 0, 0, 0}) { // 2
		t.Errorf("P9.2: of an empty blob: % x", l)
	}
	want := append([]byte{0x00, 0x09, 0x00, 0x00, 0xcb, 0xf4, 0x39, 0x26}, "123456789"...) // 3
	if l := split(t, []byte("123456789")); len(l) != 1 || !bytes.Equal(l[0], want) {
		t.Errorf("P9.2: of 123456789: % x", l)
	}
	l := split(t, pattern(249)) // 4
	if len(l) != 2 || len(l[0]) != 256 || len(l[1]) != 9 {
		t.Fatalf("P9.2: of 249 bytes: % x", l)
	}
	if !bytes.Equal(l[0][:4], []byte{0x00, 0xf9, 0x00, 0x00}) || !bytes.Equal(l[1][:4], []byte{0x00, 0xf9, 0x00, 0xf8}) || !bytes.Equal(l[0][4:8], l[1][4:8]) {
		t.Errorf("P9.2: of 249 bytes: % x", l)
	}
}

// TestExampleTake: 5 to 7.
func TestExampleTake(t *testing.T) {
	nine, long := split(t, []byte("123456789")), split(t, pattern(249))
	j := made(t, 2) // 5
	wantOn(t, j, 0, long[0])
	wantHeld(t, j, 0, 248)
	wantBlob(t, j, 1, nine[0], []byte("123456789"))
	wantBlob(t, j, 0, long[1], pattern(249))
	wantRefused(t, j, 0, long[1], api.ErrChunk)

	j = made(t, 1) // 6
	wantRefused(t, j, 0, []byte{0, 1, 0, 0, 0, 0, 0, 0, 0x61}, api.ErrChunk)
	wantHeld(t, j, 0, 0)
	wantRefused(t, j, 0, []byte{0, 1, 0, 0, 0, 0, 0, 0}, api.ErrChunk)

	j = made(t, 1) // 7
	wantOn(t, j, 0, long[0])
	j.Reset()
	wantHeld(t, j, 0, 0)
	wantRefused(t, j, 0, long[1], api.ErrChunk)
	wantRefused(t, j, 1, long[1], api.ErrArg)
	wantRefused(t, j, 1, nine[0], api.ErrArg)
}

// TestReadme: what README.md shows.
func TestReadme(t *testing.T) {
	blob := bytes.Repeat([]byte("quorate "), 50)
	if n := frag.Count(len(blob)); n != 2 {
		t.Errorf("README: %d chunks", n)
	}
	l := split(t, blob)
	if len(l) != 2 || len(l[0]) != 256 || len(l[1]) != 160 {
		t.Fatalf("README: %d chunks", len(l))
	}
	j := made(t, 3)
	wantOn(t, j, 0, l[0])
	wantHeld(t, j, 0, 248)
	wantRefused(t, j, 2, l[1], api.ErrChunk)
	wantBlob(t, j, 0, l[1], blob)
}

package frag_test

import (
	"bytes"
	"hash/crc32"
	"math"
	"math/rand"
	"slices"
	"testing"

	"quorate/api"
	"quorate/frag"
)

// pattern makes n bytes that tell their places.
func pattern(n int) []byte {
	b := make([]byte, n)
	for i := range b {
		b[i] = byte(i*7 + i/256)
	}
	return b
}

func randomBytes(r *rand.Rand, n int) []byte {
	b := make([]byte, n)
	r.Read(b)
	return b
}

func sumOf(b []byte) int { return int(crc32.ChecksumIEEE(b)) }

// chunk writes one, whether or not it has a chunk's form.
func chunk(size, place, sum int, piece []byte) []byte {
	c := []byte{byte(size / 256), byte(size), byte(place / 256), byte(place), byte(sum >> 24), byte(sum >> 16), byte(sum >> 8), byte(sum)}
	return append(c, piece...)
}

// chunksOf are a blob's chunks, in the words of 9.1.
func chunksOf(blob []byte) [][]byte {
	l := [][]byte{chunk(len(blob), 0, sumOf(blob), blob[:min(248, len(blob))])}
	for place := 248; place < len(blob); place += 248 {
		l = append(l, chunk(len(blob), place, sumOf(blob), blob[place:min(place+248, len(blob))]))
	}
	return l
}

// sizes are those at which something changes, and some between.
func sizes() []int {
	l := []int{0, 1, 2, 100, 247, 3999, 4000}
	for n := 248; n < 4000; n += 248 {
		l = append(l, n-1, n, n+1, min(n+100, 4000))
	}
	slices.Sort(l)
	return slices.Compact(l)
}

// far are numbers that are nobody's, and of no blob.
func far() []int {
	return []int{math.MinInt, math.MinInt + 1, -api.MaxCount, -1 << 32, -1 << 16, -256, -16, -1, 1 << 16, 1 << 32, 1<<32 + 1, api.MaxCount, math.MaxInt - 246, math.MaxInt}
}

func split(t *testing.T, blob []byte) [][]byte {
	t.Helper()
	l, e := frag.Split(blob)
	if e != api.OK || len(l) == 0 {
		t.Fatalf("P9.2: Split of %d bytes: %d chunks, error %d", len(blob), len(l), e)
	}
	return l
}

func made(t *testing.T, nodes int) *frag.Joiner {
	t.Helper()
	j, e := frag.New(nodes)
	if j == nil || e != api.OK {
		t.Fatalf("P9.3: New(%d): error %d, want a joiner", nodes, e)
	}
	return j
}

// shown is the beginning of a list of bytes.
func shown(b []byte) []byte { return b[:min(12, len(b))] }

func wantAnswer(t *testing.T, j *frag.Joiner, sender int, c, blob []byte, whole bool, want api.Errno) {
	t.Helper()
	b, ok, e := j.Take(sender, c)
	if ok != whole || e != want || !bytes.Equal(b, blob) {
		t.Fatalf("P9.4: Take(%d, % x .. of %d bytes) = % x .. of %d bytes, %v, error %d, want % x .. of %d, %v, error %d", sender, shown(c), len(c), shown(b), len(b), ok, e, shown(blob), len(blob), whole, want)
	}
}

// wantOn takes a chunk that goes on with a blob.
func wantOn(t *testing.T, j *frag.Joiner, sender int, c []byte) {
	t.Helper()
	wantAnswer(t, j, sender, c, nil, false, api.OK)
}

// wantBlob takes a chunk that makes a blob whole.
func wantBlob(t *testing.T, j *frag.Joiner, sender int, c, blob []byte) {
	t.Helper()
	wantAnswer(t, j, sender, c, blob, true, api.OK)
	wantHeld(t, j, sender, 0)
}

// wantRefused takes a chunk that is refused and changes nothing.
func wantRefused(t *testing.T, j *frag.Joiner, sender int, c []byte, want api.Errno) {
	t.Helper()
	held := allHeld(j)
	wantAnswer(t, j, sender, c, nil, false, want)
	if got := allHeld(j); got != held {
		t.Fatalf("P9.4: Take(%d, % x .. of %d bytes) was refused, but Held went from %v to %v", sender, shown(c), len(c), held, got)
	}
}

func wantHeld(t *testing.T, j *frag.Joiner, sender, want int) {
	t.Helper()
	if n := j.Held(sender); n != want {
		t.Fatalf("P9.5: Held(%d) = %d, want %d", sender, n, want)
	}
}

// allHeld tells Held of every sender that there can be.
func allHeld(j *frag.Joiner) [api.MaxNodes]int {
	var l [api.MaxNodes]int
	for p := range l {
		l[p] = j.Held(p)
	}
	return l
}

// wantThrough takes all chunks of a blob in their order.
func wantThrough(t *testing.T, j *frag.Joiner, sender int, blob []byte) {
	t.Helper()
	l := split(t, blob)
	last := len(l) - 1
	for i, c := range l[:last] {
		wantOn(t, j, sender, c)
		wantHeld(t, j, sender, (i+1)*248)
	}
	wantBlob(t, j, sender, l[last], blob)
}

package journal_test

import (
	"bytes"
	"testing"

	"quorate/api"
	"quorate/journal"
)

// TestExampleNew: section 12.5, 1.
func TestExampleNew(t *testing.T) {
	j, w := journal.New()
	wantHead := []byte{0x71, 0x6a, 0, 0, 0, 0, 0, 0, 0, 1, 0, 0, 0, 0}
	if len(w) != 1 || w[0].File != 0 || !w[0].Start || len(w[0].Bytes) != 18 || !bytes.Equal(w[0].Bytes[:14], wantHead) {
		t.Fatalf("P12.2: New: %s", shownWrites(w))
	}
	if n := journal.Cost(w); n != 19 {
		t.Errorf("P12.1: Cost %d, want 19", n)
	}
	if j.Size() != 18 || j.Generation() != 1 {
		t.Errorf("P12.6: size %d, generation %d", j.Size(), j.Generation())
	}
	for k := range 19 {
		again, l, ws, e := journal.Open(journal.Apply(api.Disk{}, w, k))
		if again == nil || len(l) > 0 || e != api.OK || !sameWrites(ws, w) || again.Size() != 18 || again.Generation() != 1 {
			t.Fatalf("P12.3: behind %d units: %s, %s, error %d", k, shownRecords(l), shownWrites(ws), e)
		}
	}
	wantRecords(t, journal.Apply(api.Disk{}, w, 19), nil)
}

// TestExampleAppend: 2 and 3.
func TestExampleAppend(t *testing.T) {
	j, _, d := made(t) // 2
	w, e := j.Append(rec(2, "ab"))
	if e != api.OK || len(w) != 1 || w[0].File != 0 || w[0].Start || len(w[0].Bytes) != 10 || !bytes.Equal(w[0].Bytes[:6], []byte{2, 0, 2, 0xa5, 0x61, 0x62}) || j.Size() != 28 {
		t.Fatalf("P12.4: %s, error %d, size %d", shownWrites(w), e, j.Size())
	}
	torn, l, ws, e := journal.Open(journal.Apply(d, w, 9))
	if e != api.OK || len(l) > 0 || !sameWrites(ws, []api.Write{{File: 1, Start: true, Bytes: file(2, 0)}}) || torn.Generation() != 2 || torn.Size() != 18 {
		t.Fatalf("P12.3: behind 9 units: %s, %s, error %d", shownRecords(l), shownWrites(ws), e)
	}
	d = journal.Apply(d, w, 10)
	wantRecords(t, d, []api.Record{rec(2, "ab")})

	w, e = j.Compact(rec(1, "s")) // 3
	if e != api.OK || len(w) != 1 || w[0].File != 1 || !w[0].Start || len(w[0].Bytes) != 27 || journal.Cost(w) != 28 {
		t.Fatalf("P12.5: %s, error %d", shownWrites(w), e)
	}
	if b := w[0].Bytes; !bytes.Equal(b[:18], file(2, 1)) || !bytes.Equal(b[18:23], []byte{1, 0, 1, 0xa5, 0x73}) {
		t.Fatalf("P12.5: %s", shown(b))
	}
	for k := range 28 {
		wantRecords(t, journal.Apply(d, w, k), []api.Record{rec(2, "ab")})
	}
	wantRecords(t, journal.Apply(d, w, 28), []api.Record{rec(1, "s")})
}

// TestExampleLimits: 4.
func TestExampleLimits(t *testing.T) {
	j, m, _ := made(t)
	for _, r := range []api.Record{rec(0, ""), rec(5, ""), {Kind: 1, Body: pattern(4201)}} {
		if w, e := j.Append(r); e != api.ErrRecord || len(w) > 0 {
			t.Errorf("P12.4: Append of kind %d with %d bytes: error %d", r.Kind, len(r.Body), e)
		}
	}
	long := api.Record{Kind: 1, Body: pattern(4200)}
	for range 15 {
		wantAppend(t, j, m, long)
	}
	if j.Size() != 63138 {
		t.Errorf("P12.6: size %d, want 63138", j.Size())
	}
	if w, e := j.Append(long); e != api.ErrLong || len(w) > 0 {
		t.Errorf("P12.4: error %d, want %d", e, api.ErrLong)
	}
	wantAppend(t, j, m, rec(3, ""))
	if j.Size() != 63146 {
		t.Errorf("P12.6: size %d, want 63146", j.Size())
	}
}

// TestExampleOpen: 5 and 6.
func TestExampleOpen(t *testing.T) {
	if j, l, w, e := journal.Open(api.Disk{B: []byte{0x71}}); j != nil || len(l) > 0 || len(w) > 0 || e != api.ErrFile { // 5
		t.Errorf("P12.3: error %d, want %d", e, api.ErrFile)
	}
	_, begins := journal.New()
	if j, l, w, e := journal.Open(api.Disk{}); j == nil || len(l) > 0 || e != api.OK || !sameWrites(w, begins) {
		t.Errorf("P12.3: of an empty disk: %s, error %d", shownWrites(w), e)
	}
	f := file(1, 0, rec(2, "one"), rec(2, "two")) // 6
	f[18+4] ^= 0x10
	j, l, w, e := journal.Open(api.Disk{A: f})
	if j == nil || len(l) > 0 || e != api.OK || !sameWrites(w, []api.Write{{File: 1, Start: true, Bytes: file(2, 0)}}) {
		t.Errorf("P12.3: %s, %s, error %d", shownRecords(l), shownWrites(w), e)
	}
}

// TestReadme: what README.md shows.
func TestReadme(t *testing.T) {
	j, w := journal.New()
	d := journal.Apply(api.Disk{}, w, -1)
	if journal.Cost(w) != 19 {
		t.Errorf("README: Cost %d", journal.Cost(w))
	}
	w, _ = j.Append(api.Record{Kind: api.RecAppend, Body: []byte("ab")})
	d = journal.Apply(d, w, -1)
	w, _ = j.Append(api.Record{Kind: api.RecSafe, Body: []byte("c")})
	torn := journal.Apply(d, w, 5)

	j, l, w, e := journal.Open(torn)
	if e != api.OK || len(l) != 1 || len(w) != 1 || w[0].File != 1 {
		t.Fatalf("README: %s, %s, error %d", shownRecords(l), shownWrites(w), e)
	}
	d = journal.Apply(torn, w, -1)
	if j.Generation() != 2 || j.Size() != 28 {
		t.Errorf("README: generation %d, size %d", j.Generation(), j.Size())
	}
	w, e = j.Compact(api.Record{Kind: api.RecState, Body: []byte("whole")})
	if e != api.OK || len(w) != 1 || w[0].File != 0 {
		t.Errorf("README: %s, error %d", shownWrites(w), e)
	}
	d = journal.Apply(d, w, -1)
	for i, r := range journal.Each(d) {
		if i != 0 || r.Kind != api.RecState || string(r.Body) != "whole" {
			t.Errorf("README: record %d: %v", i, r)
		}
	}
}

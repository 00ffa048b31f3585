package journal_test

import (
	"math/rand"
	"testing"

	"quorate/api"
	"quorate/journal"
)

// lengths are those of a Body at which something changes.
func lengths() []int {
	return []int{0, 1, 2, 3, 4, 127, 128, 255, 256, 257, 511, 512, 4095, 4096, 4097, 4198, 4199, 4200}
}

// tooLong are lengths that no Body may have, among them such as look fitting in two bytes.
func tooLong() []int { return []int{4201, 4202, 8192, 65535, 65536, 65537, 65536 + 4200, 1 << 20} }

// TestNew: P12.2, each is like the first.
func TestNew(t *testing.T) {
	for range 3 {
		j, m, d := made(t)
		wantRecords(t, d, nil)
		wantAppend(t, j, m, rec(1, "x"))
	}
}

// TestAppend: P12.4, every kind and length.
func TestAppend(t *testing.T) {
	for kind := 1; kind <= 4; kind++ {
		for _, n := range lengths() {
			j, m, d := made(t)
			for range 3 { // each sum hangs on the one ahead
				before := j.Size()
				d = all(d, wantAppend(t, j, m, api.Record{Kind: kind, Body: pattern(n)}))
				if j.Size() != before+8+n || len(d.A) != j.Size() || len(d.B) != 0 {
					t.Fatalf("P12.4: size %d behind %d, with %d bytes", j.Size(), before, n)
				}
			}
			wantRecords(t, d, m.records)
		}
	}
}

// TestCompact: P12.5, every kind and length, to and fro between the files.
func TestCompact(t *testing.T) {
	for kind := 1; kind <= 4; kind++ {
		for _, n := range lengths() {
			j, m, d := made(t)
			for turn := range 4 {
				d = all(d, wantAppend(t, j, m, rec(2, "ahead")))
				d = all(d, wantCompact(t, j, m, api.Record{Kind: kind, Body: pattern(n)}))
				if j.Size() != 26+n || j.Generation() != turn+2 {
					t.Fatalf("P12.5: size %d, generation %d behind %d compactings of %d bytes", j.Size(), j.Generation(), turn+1, n)
				}
				wantRecords(t, d, []api.Record{{Kind: kind, Body: pattern(n)}})
			}
		}
	}
}

// TestNoRecord: ErrRecord, at every wrong kind and length, which changes nothing.
func TestNoRecord(t *testing.T) {
	j, m, d := made(t)
	d = all(d, wantAppend(t, j, m, rec(4, "first")))
	var wrong []api.Record
	for _, kind := range append(far(), 0) {
		wrong = append(wrong, rec(kind, ""), rec(kind, "body"), api.Record{Kind: kind, Body: pattern(4201)})
	}
	for kind := 1; kind <= 4; kind++ {
		for _, n := range tooLong() {
			wrong = append(wrong, api.Record{Kind: kind, Body: pattern(n)})
		}
	}
	for _, r := range wrong {
		if w, e := j.Append(r); e != api.ErrRecord || w != nil {
			t.Fatalf("P12.4: Append of kind %d with %d bytes: error %d, want %d", r.Kind, len(r.Body), e, api.ErrRecord)
		}
		if w, e := j.Compact(r); e != api.ErrRecord || w != nil {
			t.Fatalf("P12.5: Compact of kind %d with %d bytes: error %d, want %d", r.Kind, len(r.Body), e, api.ErrRecord)
		}
		wantAt(t, j, m)
	}
	d = all(d, wantAppend(t, j, m, rec(4, "second")))
	wantRecords(t, d, m.records)
	d = all(d, wantCompact(t, j, m, rec(1, "third")))
	wantRecords(t, d, m.records)
}

// filled is a journal whose file has just so many bytes.
func filled(t *testing.T, size int) (*journal.Journal, *model, api.Disk) {
	t.Helper()
	j, m, d := made(t)
	for j.Size() < size {
		n := min(4200, size-j.Size()-8)
		if rest := size - j.Size() - 8 - n; rest > 0 && rest < 8 {
			n -= 8 // room for one more frame
		}
		d = all(d, wantAppend(t, j, m, api.Record{Kind: 2, Body: pattern(n)}))
	}
	if j.Size() != size {
		t.Fatalf("P12.4: size %d, want %d", j.Size(), size)
	}
	return j, m, d
}

// TestLong: ErrLong, just beyond MaxFile, which changes nothing.
func TestLong(t *testing.T) {
	for _, room := range []int{0, 1, 7, 8, 9, 15, 16, 100, 4207, 4208, 4209} {
		j, m, d := filled(t, api.MaxFile-room)
		for _, n := range []int{0, 1, room - 8, room - 7, room, 4200} {
			if n < 0 || n > 4200 || n+8 <= room {
				continue
			}
			if w, e := j.Append(api.Record{Kind: 1, Body: pattern(n)}); e != api.ErrLong || w != nil {
				t.Fatalf("P12.4: Append of %d bytes into room for %d: error %d, want %d", n, room, e, api.ErrLong)
			}
			wantAt(t, j, m)
		}
		if n := min(4200, room-8); n >= 0 {
			d = all(d, wantAppend(t, j, m, api.Record{Kind: 3, Body: pattern(n)}))
		}
		wantRecords(t, d, m.records)
		if w, e := j.Append(rec(0, "")); e != api.ErrRecord || w != nil {
			t.Fatalf("P12.4: no record, into a full file: error %d, want %d", e, api.ErrRecord)
		}
		d = all(d, wantCompact(t, j, m, api.Record{Kind: 1, Body: pattern(4200)}))
		d = all(d, wantAppend(t, j, m, rec(2, "on")))
		wantRecords(t, d, m.records)
	}
}

// TestManyShort: as many records as a file takes.
func TestManyShort(t *testing.T) {
	j, m, d := made(t)
	var ws []api.Write
	for {
		w, e := j.Append(rec(2, ""))
		if e == api.ErrLong {
			break
		}
		ws = append(ws, w...)
		m.records = append(m.records, rec(2, ""))
	}
	if j.Size() != 65530 || len(m.records) != 8189 {
		t.Fatalf("P12.4: %d records in %d bytes", len(m.records), j.Size())
	}
	d = all(d, ws)
	wantRecords(t, d, m.records)
	d.A = append(d.A, 2)
	wantGoesOn(t, d)
	_, m, w, _ := wantOpen(t, d) // all of them are written anew
	wantRecords(t, all(d, w), m.records)
}

// TestSpent: P12.5, at the last generations; ErrRecord comes first.
func TestSpent(t *testing.T) {
	for _, at := range []int{0, 1} {
		f := file(api.MaxCount-1, 1, rec(1, "a"))
		d := []api.Disk{{A: f}, {B: f}}[at]
		j, m, _, _ := wantOpen(t, d)
		d = all(d, wantCompact(t, j, m, rec(1, "b")))
		if j.Generation() != api.MaxCount {
			t.Fatalf("P12.5: generation %d", j.Generation())
		}
		wantRecords(t, d, m.records)
		for range 2 {
			if w, e := j.Compact(rec(1, "c")); e != api.ErrSpent || w != nil {
				t.Fatalf("P12.5: error %d, want %d", e, api.ErrSpent)
			}
			if w, e := j.Compact(rec(5, "c")); e != api.ErrRecord || w != nil {
				t.Fatalf("P12.5: error %d, want %d", e, api.ErrRecord)
			}
			wantAt(t, j, m)
			d = all(d, wantAppend(t, j, m, rec(2, "d")))
			wantRecords(t, d, m.records)
		}
	}
}

// TestMixture: drawn calls, wrong ones among them, against the chapter's words.
func TestMixture(t *testing.T) {
	var seen [5]int
	for seed := range 60 {
		r := rand.New(rand.NewSource(int64(seed)))
		j, m, d := made(t)
		for range 150 {
			x := drawn(r)
			if r.Intn(10) == 0 {
				x.Kind = far()[r.Intn(len(far()))]
			}
			before := *m
			var w []api.Write
			if r.Intn(100) == 0 {
				w = wantCompact(t, j, m, x)
			} else {
				w = wantAppend(t, j, m, x)
			}
			switch {
			case !isRecord(x):
				seen[0]++
			case len(w) == 0:
				seen[1]++
			case m.at != before.at:
				seen[2]++
			case m.at == 0:
				seen[3]++
			default:
				seen[4]++
			}
			d = all(d, w)
		}
		wantRecords(t, d, m.records)
	}
	for k, n := range seen {
		if n < 50 {
			t.Errorf("the test is too weak: %d answers of kind %d", n, k)
		}
	}
}

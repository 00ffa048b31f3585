package journal_test

import (
	"bytes"
	"math/rand"
	"testing"

	"quorate/api"
	"quorate/journal"
)

// wildFile draws one that is often sound, and often damaged in some way.
func wildFile(r *rand.Rand) []byte {
	generations := []uint64{1, 1, 2, 2, 3, 3, 4, 255, 256, 1<<62 - 1, 1 << 62, 1<<62 + 1, 1 << 63, 0}
	records := r.Intn(5)
	count := records
	if r.Intn(2) == 0 {
		count = r.Intn(records + 2)
	}
	f := headWith(generations[r.Intn(len(generations))], uint64(count))
	for range records {
		f = behind(f, short(r))
	}
	for range r.Intn(3) {
		f = damaged(r, f)
	}
	return f
}

// damaged does one thing to a file, or to its end.
func damaged(r *rand.Rand, f []byte) []byte {
	if len(f) == 0 {
		return randomBytes(r, r.Intn(3))
	}
	at := r.Intn(len(f))
	f = bytes.Clone(f)
	switch r.Intn(9) {
	case 0:
		f[at] ^= 1 << r.Intn(8)
	case 1:
		f = f[:at]
	case 2:
		f = append(f, randomBytes(r, 1+r.Intn(12))...)
	case 3:
		f = append(f[:at], f[at+1:]...)
	case 4:
		f = append(f, f[at:]...)
	case 5:
		if len(f) >= 4 {
			kind, turn := r.Intn(6), byte(r.Intn(5)/4)
			f = append(f, frameWith(f[len(f)-4:], kind, r.Intn(4), turn, randomBytes(r, r.Intn(4)))...)
		}
	case 6:
		f = file(1, 0)[:r.Intn(19)]
	case 7:
		f = nil
	}
	return f
}

// TestWild: P1 and P12.3: whatever stands on a disk, Open answers what the chapter says, and its journal goes on so.
func TestWild(t *testing.T) {
	r := rand.New(rand.NewSource(10))
	seen := make([]int, 6) // clean A, clean B, not clean, unbegun, spent, no file
	for range 40000 {
		d := api.Disk{A: wildFile(r), B: wildFile(r)}
		if r.Intn(4) == 0 {
			d.B = nil
		}
		p, at := pick(d)
		switch e := wantGoesOn(t, d); {
		case e == api.ErrFile:
			seen[5]++
		case e == api.ErrSpent:
			seen[4]++
		case p == nil:
			seen[3]++
		case !p.clean:
			seen[2]++
		default:
			seen[at]++
		}
	}
	for k, n := range seen {
		if n < 300 {
			t.Errorf("the test is too weak: %d answers of kind %d", n, k)
		}
	}
}

// TestAnyBytes: P1: bytes of any kind and length.
func TestAnyBytes(t *testing.T) {
	r := rand.New(rand.NewSource(11))
	for range 400 {
		d := api.Disk{A: randomBytes(r, r.Intn(100)), B: randomBytes(r, r.Intn(100))}
		switch r.Intn(4) {
		case 0:
			d.A = append(file(1+r.Intn(9), 0), randomBytes(r, r.Intn(70000))...)
		case 1:
			d.B = append(file(1+r.Intn(9), 0), make([]byte, r.Intn(70000))...)
		case 2:
			d.A = bytes.Repeat([]byte{byte(r.Intn(256))}, r.Intn(70000))
		}
		wantGoesOn(t, d)
	}
}

// TestWildCalls: P1: drawn calls on whatever journal comes out of a drawn disk, against the chapter's words.
func TestWildCalls(t *testing.T) {
	r := rand.New(rand.NewSource(12))
	for range 500 {
		d := api.Disk{A: wildFile(r), B: wildFile(r)}
		j, m, ws, e := wantOpen(t, d)
		if e != api.OK {
			continue
		}
		d = all(d, ws)
		for range 30 {
			x := drawn(r)
			switch r.Intn(8) {
			case 0:
				x.Kind = far()[r.Intn(len(far()))]
			case 1:
				x.Body = make([]byte, tooLong()[r.Intn(4)])
			}
			if r.Intn(3) == 0 {
				d = all(d, wantCompact(t, j, m, x))
			} else {
				d = all(d, wantAppend(t, j, m, x))
			}
		}
		wantRecords(t, d, m.records)
		if len(d.A) > api.MaxFile || len(d.B) > api.MaxFile {
			t.Fatalf("P12.4: files of %d and %d bytes", len(d.A), len(d.B))
		}
	}
}

// TestThereAndBack: P16: records come back as they were written, of every kind and length.
func TestThereAndBack(t *testing.T) {
	for n := range api.MaxRecord + 1 {
		want := api.Record{Kind: 1 + n%4, Body: pattern(n)}
		j, ws := journal.New()
		d := all(api.Disk{}, ws)
		ws, e := j.Append(want)
		if e != api.OK || j.Size() != 26+n {
			t.Fatalf("P12.4: of %d bytes: error %d, size %d", n, e, j.Size())
		}
		wantRecords(t, all(d, ws), []api.Record{want})
	}
}

package journal_test

import (
	"math/rand"
	"testing"

	"quorate/api"
	"quorate/journal"
)

// recordsOf are those of a disk that Open takes.
func recordsOf(t *testing.T, promise string, d api.Disk) []api.Record {
	t.Helper()
	j, l, _, e := journal.Open(d)
	if j == nil || e != api.OK {
		t.Fatalf("%s: Open of %s and %s: error %d", promise, shown(d.A), shown(d.B), e)
	}
	return l
}

func wantSame(t *testing.T, what string, got, want []api.Record) {
	t.Helper()
	if !sameRecords(got, want) {
		t.Fatalf("%s: %s, want %s", what, shownRecords(got), shownRecords(want))
	}
}

// wantTorn: P12.8 and P12.9, of one call's writes: at every number of units the records are those ahead of it, and behind all of them those behind it.
func wantTorn(t *testing.T, what string, d api.Disk, ws []api.Write, before, after []api.Record) {
	t.Helper()
	cost := journal.Cost(ws)
	for k := range cost + 1 {
		want := before
		if k == cost {
			want = after
		}
		torn := journal.Apply(d, ws, k)
		wantSame(t, what, recordsOf(t, what, torn), want)
		if k < 12 || k > cost-12 || k%97 == 0 {
			wantTornAgain(t, torn, want)
		}
	}
}

// wantTornAgain: P12.9: where Open's own write is torn, the next opening gives the same records.
func wantTornAgain(t *testing.T, d api.Disk, want []api.Record) {
	t.Helper()
	_, _, ws, _ := journal.Open(d)
	for k := range journal.Cost(ws) + 1 {
		wantSame(t, "P12.9", recordsOf(t, "P12.9", journal.Apply(d, ws, k)), want)
	}
}

// TestTornNew: P12.8, if New is the only call: no record, whatever k is.
func TestTornNew(t *testing.T) {
	_, ws := journal.New()
	wantTorn(t, "P12.8: New", api.Disk{}, ws, nil, nil)
}

// TestTorn: P12.8, every crash within every call of drawn journals.
func TestTorn(t *testing.T) {
	calls := [2]int{}
	for seed := range 10 {
		r := rand.New(rand.NewSource(int64(seed)))
		j, m, d := made(t)
		for range 30 {
			before := m.records
			var ws []api.Write
			x := short(r)
			if r.Intn(40) == 0 {
				x.Body = randomBytes(r, 300+r.Intn(300))
			}
			if r.Intn(5) == 0 {
				ws = wantCompact(t, j, m, x)
				wantTorn(t, "P12.8: Compact", d, ws, before, []api.Record{x})
				calls[0]++
			} else {
				ws = wantAppend(t, j, m, x)
				wantTorn(t, "P12.8: Append", d, ws, before, m.records)
				calls[1]++
			}
			d = all(d, ws)
		}
	}
	if calls[0] < 30 || calls[1] < 150 {
		t.Errorf("the test is too weak: %v", calls)
	}
}

// TestTornLong: P12.8, with the longest record and a full file.
func TestTornLong(t *testing.T) {
	j, m, d := filled(t, api.MaxFile-4208)
	before := m.records
	long := api.Record{Kind: 2, Body: pattern(4200)}
	for _, compact := range []bool{false, true} {
		ws := []api.Write(nil)
		if compact {
			ws = wantCompact(t, j, m, long)
		} else {
			ws = wantAppend(t, j, m, long)
		}
		cost := journal.Cost(ws)
		for k := 0; k < cost; k += 1 + k%211 {
			wantSame(t, "P12.8", recordsOf(t, "P12.8", journal.Apply(d, ws, k)), before)
		}
		wantSame(t, "P12.8", recordsOf(t, "P12.8", journal.Apply(d, ws, cost-1)), before)
		d = journal.Apply(d, ws, cost)
		wantSame(t, "P12.8", recordsOf(t, "P12.8", d), m.records)
		before = m.records
	}
}

// TestLife: P12.8, P12.9 and P12.11: a journal that crashes over and over, also within the writes of Open, loses nothing that was written whole.
func TestLife(t *testing.T) {
	var seen [3]int // crashes within a call, within the writes of Open, and neither
	for seed := range 80 {
		r := rand.New(rand.NewSource(int64(seed)))
		j, m, d := made(t)
		for range 120 {
			switch r.Intn(12) {
			case 0, 1:
				ws := wantAppend(t, j, m, drawn(r))
				k := r.Intn(journal.Cost(ws) + 1)
				if len(ws) > 0 && k < journal.Cost(ws) {
					m.records = m.records[:len(m.records)-1]
					seen[0]++
				}
				d = journal.Apply(d, ws, k)
				j, m, d = reopened(t, r, d, m.records, &seen[1])
			case 2:
				j, m, d = reopened(t, r, d, m.records, &seen[1])
				seen[2]++
			case 3:
				before := m.records
				ws := wantCompact(t, j, m, drawn(r))
				if k := r.Intn(2 * journal.Cost(ws)); k < journal.Cost(ws) {
					d = journal.Apply(d, ws, k)
					j, m, d = reopened(t, r, d, before, &seen[1])
					seen[0]++
				} else {
					d = all(d, ws)
				}
			default:
				d = all(d, wantAppend(t, j, m, drawn(r)))
			}
		}
		wantRecords(t, d, m.records)
	}
	for k, n := range seen {
		if n < 100 {
			t.Errorf("the test is too weak: %d of kind %d", n, k)
		}
	}
}

// reopened opens a disk that must have these records; some of the openings crash within their own write.
func reopened(t *testing.T, r *rand.Rand, d api.Disk, want []api.Record, torn *int) (*journal.Journal, *model, api.Disk) {
	t.Helper()
	for {
		j, m, ws, e := wantOpen(t, d)
		if e != api.OK {
			t.Fatalf("P12.8: error %d", e)
		}
		wantSame(t, "P12.9: opened again", m.records, want)
		if len(ws) == 0 || r.Intn(2) == 0 {
			return j, m, all(d, ws)
		}
		d = journal.Apply(d, ws, r.Intn(journal.Cost(ws)))
		*torn++
	}
}

// turned is bytes with one bit turned.
func turned(f []byte, bit int) []byte { return changed(f, bit/8, f[bit/8]^1<<(bit%8)) }

// places are where the frames of a file end, the head's end first.
func places(f []byte) []int {
	l := []int{18}
	for _, r := range parse(f).records {
		l = append(l, l[len(l)-1]+8+len(r.Body))
	}
	return l
}

// readOf are the records that Open gives of a file, or Each where Open answers ErrSpent; false: it is not sound.
func readOf(t *testing.T, at int, f []byte) ([]api.Record, bool) {
	t.Helper()
	d := []api.Disk{{A: f}, {B: f}}[at]
	_, l, _, e := journal.Open(d)
	switch e {
	case api.OK:
		return l, true
	case api.ErrSpent:
		return gone(t, journal.Each(d)), true
	case api.ErrFile:
		return nil, false
	}
	t.Fatalf("P12.3: error %d", e)
	return nil, false
}

// wantDamaged: P12.10: of a file with damage at a place just the frames ahead of it are read, if these are at least those of its count.
func wantDamaged(t *testing.T, at int, clean, damaged []byte, place, count int) {
	t.Helper()
	ends := places(clean)
	ahead := 0
	for ahead+1 < len(ends) && ends[ahead+1] <= place {
		ahead++
	}
	l, ok := readOf(t, at, damaged)
	if wantOk := place >= ends[count]; ok != wantOk {
		t.Fatalf("P12.10: damage at byte %d of %s with count %d: sound %v, want %v", place, shown(clean), count, ok, wantOk)
	}
	if ok {
		wantSame(t, "P12.10: damage", l, parse(clean).records[:ahead])
	}
}

// TestDamage: P12.10, every bit turned and every end cut off.
func TestDamage(t *testing.T) {
	l := []api.Record{rec(1, "one"), rec(2, ""), rec(3, "\x00"), {Kind: 4, Body: pattern(300)}, rec(2, "ab"), rec(2, "ab")}
	for _, generation := range []int{1, 300, api.MaxCount} {
		for count := range len(l) + 1 {
			f := file(generation, count, l...)
			at := count % 2
			for bit := range 8 * len(f) {
				wantDamaged(t, at, f, turned(f, bit), bit/8, count)
			}
			for n := 18; n < len(f); n++ {
				wantDamaged(t, at, f, f[:n], n, count)
			}
		}
	}
}

// TestDamageOfFew: P12.10, of the file that counts, while there is an older one.
func TestDamageOfFew(t *testing.T) {
	old, l := rec(1, "old"), []api.Record{rec(1, "one"), rec(2, "two")}
	f := file(6, 1, l...)
	for bit := range 8 * len(f) {
		d := api.Disk{A: turned(f, bit), B: file(5, 1, old)}
		want := l[:1]
		if bit/8 < 18+11 {
			want = []api.Record{old}
		}
		wantSame(t, "P12.10", recordsOf(t, "P12.10", d), want)
		wantGoesOn(t, d)
	}
}

// TestDamageOfLong: P12.10, some bits of a full file.
func TestDamageOfLong(t *testing.T) {
	_, _, d := filled(t, api.MaxFile)
	r := rand.New(rand.NewSource(5))
	for range 150 {
		bit := r.Intn(8 * len(d.A))
		wantDamaged(t, 0, d.A, turned(d.A, bit), bit/8, 0)
		n := 18 + r.Intn(len(d.A)-18)
		wantDamaged(t, 0, d.A, d.A[:n], n, 0)
	}
}

// TestEveryLength: P12.10: a turned bit in a length or kind is seen by the check byte, also where the other length would fit what follows.
func TestEveryLength(t *testing.T) {
	inner := file(1, 0)[14:18]
	var forged []byte // frames within a body, as they would stand in a file
	for len(forged) < 4000 {
		f := frameWith(inner, 2, 4, 0, []byte("evil"))
		forged, inner = append(forged, f...), f[len(f)-4:]
	}
	for _, n := range []int{0, 1, 12, 100, 1000, 4000} {
		f := file(1, 0, api.Record{Kind: 2, Body: forged[:min(n, len(forged))]}, rec(3, "last"))
		for bit := 18 * 8; bit < 22*8; bit++ {
			wantDamaged(t, 0, f, turned(f, bit), bit/8, 0)
		}
	}
}

// TestOpenedOften: P12.11: however often a disk is opened, with its writes made or not, the records are the same, and the journal goes on behind them.
func TestOpenedOften(t *testing.T) {
	r := rand.New(rand.NewSource(6))
	for range 300 {
		f := file(1+r.Intn(5), 0)
		for range r.Intn(6) {
			f = behind(f, short(r))
		}
		if r.Intn(2) == 0 {
			f = append(f, randomBytes(r, 1+r.Intn(10))...)
		}
		d := api.Disk{A: f, B: randomBytes(r, r.Intn(30))}
		want := parse(f).records
		for range 3 {
			wantSame(t, "P12.11", recordsOf(t, "P12.11", d), want)
		}
		for range 4 {
			j, l, ws, e := journal.Open(d)
			if e != api.OK {
				t.Fatalf("P12.11: error %d", e)
			}
			wantSame(t, "P12.11", l, want)
			d = all(d, ws)
			wantRecords(t, d, want)
			x := short(r)
			ws, _ = j.Append(x)
			d = all(d, ws)
			want = append(want[:len(want):len(want)], x)
			wantRecords(t, d, want)
			if _, at := pick(d); r.Intn(2) == 0 {
				d = all(d, []api.Write{{File: at, Bytes: []byte{0}}}) // the present file is torn once more
			}
		}
	}
}

// TestCleanGoesOnAlike: P12.11: behind a clean opening the journal is as the one that wrote the file.
func TestCleanGoesOnAlike(t *testing.T) {
	for seed := range 40 {
		r := rand.New(rand.NewSource(int64(seed)))
		j, m, d := made(t)
		for range 20 {
			again, _, ws, e := journal.Open(d)
			if e != api.OK || len(ws) > 0 {
				t.Fatalf("P12.3: %s, error %d", shownWrites(ws), e)
			}
			wantAt(t, again, m)
			x := drawn(r)
			var theirs []api.Write
			if r.Intn(3) == 0 {
				theirs, _ = again.Compact(x)
				ws = wantCompact(t, j, m, x)
			} else {
				theirs, _ = again.Append(x)
				ws = wantAppend(t, j, m, x)
			}
			wantWrites(t, "P12.11: an opened journal", theirs, ws)
			wantAt(t, again, m)
			d = all(d, ws)
		}
	}
}

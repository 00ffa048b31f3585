package journal_test

import (
	"math"
	"math/rand"
	"testing"

	"quorate/api"
	"quorate/journal"
)

// behindUnits makes the first k units of writes one by one, in the words of 12.1, and tells how many there were to make.
func behindUnits(d api.Disk, ws []api.Write, k int) (api.Disk, int) {
	files := [][]byte{append([]byte(nil), d.A...), append([]byte(nil), d.B...)}
	made := 0
	unit := func(do func()) {
		if made < k {
			do()
		}
		made++
	}
	for _, w := range ws {
		if w.File != 0 && w.File != 1 {
			continue
		}
		if w.Start {
			unit(func() { files[w.File] = nil })
		}
		for _, b := range w.Bytes {
			unit(func() { files[w.File] = append(files[w.File], b) })
		}
	}
	return api.Disk{A: files[0], B: files[1]}, made
}

// drawnWrites are some with any files, also such as there are not.
func drawnWrites(r *rand.Rand) []api.Write {
	var ws []api.Write
	for range r.Intn(6) {
		w := api.Write{File: r.Intn(2), Start: r.Intn(3) == 0, Bytes: randomBytes(r, r.Intn(5))}
		if r.Intn(5) == 0 {
			w.File = append(far(), 2, 3)[r.Intn(len(far())+2)]
		}
		ws = append(ws, w)
	}
	return ws
}

// TestApply: P12.1, every number of units, and numbers beyond.
func TestApply(t *testing.T) {
	r := rand.New(rand.NewSource(1))
	for range 3000 {
		d := api.Disk{A: randomBytes(r, r.Intn(6)), B: randomBytes(r, r.Intn(6))}
		ws := drawnWrites(r)
		whole, cost := behindUnits(d, ws, math.MaxInt)
		if n := journal.Cost(ws); n != cost {
			t.Fatalf("P12.1: Cost of %s is %d, want %d", shownWrites(ws), n, cost)
		}
		for k := range cost + 1 {
			want, _ := behindUnits(d, ws, k)
			if got := journal.Apply(d, ws, k); !sameDisk(got, want) {
				t.Fatalf("P12.1: %d units of %s make % x and % x of % x and % x, want % x and % x", k, shownWrites(ws), got.A, got.B, d.A, d.B, want.A, want.B)
			}
		}
		for _, k := range []int{cost + 1, cost + 2, 1 << 20, 1 << 32, api.MaxCount, math.MaxInt, -1, -2, -1 << 32, math.MinInt} {
			if got := journal.Apply(d, ws, k); !sameDisk(got, whole) {
				t.Fatalf("P12.1: %d units of %s make % x and % x, want % x and % x", k, shownWrites(ws), got.A, got.B, whole.A, whole.B)
			}
		}
	}
}

// TestApplyInParts: the first units and then the others make the same as all at once.
func TestApplyInParts(t *testing.T) {
	d := api.Disk{A: []byte("abc")}
	ws := []api.Write{{File: 1, Start: true, Bytes: []byte("xyz")}, {File: 0, Bytes: []byte("d")}}
	want := api.Disk{A: []byte("abcd"), B: []byte("xyz")}
	for k := range journal.Cost(ws[:1]) + 1 {
		part := journal.Apply(d, ws[:1], k)
		if got := journal.Apply(part, ws, -1); !sameDisk(got, want) {
			t.Errorf("P12.1: behind %d units of the first write, all of them make %q and %q", k, got.A, got.B)
		}
	}
}

// TestApplyOfNothing: no writes, and such as do nothing.
func TestApplyOfNothing(t *testing.T) {
	d := api.Disk{A: []byte("abc"), B: []byte("de")}
	lists := [][]api.Write{nil, {}, {{File: 0}}, {{File: 1, Bytes: []byte{}}}}
	for _, f := range append(far(), 2, 3, 4) {
		lists = append(lists, []api.Write{{File: f, Start: true, Bytes: []byte("no")}, {File: f, Bytes: []byte("no")}})
	}
	for _, ws := range lists {
		if n := journal.Cost(ws); n != 0 {
			t.Errorf("P12.1: Cost of %s is %d, want 0", shownWrites(ws), n)
		}
		for _, k := range []int{math.MinInt, -1, 0, 1, 2, math.MaxInt} {
			if got := journal.Apply(d, ws, k); !sameDisk(got, d) {
				t.Errorf("P12.1: %d units of %s make %q and %q", k, shownWrites(ws), got.A, got.B)
			}
		}
	}
}

// TestApplyEmpties: a file that is emptied alone, and with what was there.
func TestApplyEmpties(t *testing.T) {
	d := api.Disk{A: pattern(api.MaxFile + 10), B: pattern(3)}
	ws := []api.Write{{File: 0, Start: true}}
	if n := journal.Cost(ws); n != 1 {
		t.Errorf("P12.1: Cost %d, want 1", n)
	}
	if got := journal.Apply(d, ws, 0); !sameDisk(got, d) {
		t.Error("P12.1: behind no unit the disk is another")
	}
	if got := journal.Apply(d, ws, 1); len(got.A) != 0 || !sameDisk(got, api.Disk{B: d.B}) {
		t.Error("P12.1: the file is not emptied")
	}
}

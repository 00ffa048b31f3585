package journal_test

import (
	"bytes"
	"math/rand"
	"runtime"
	"testing"

	"quorate/api"
	"quorate/journal"
)

// roomy is the same list with room behind it that is not the callee's to write.
func roomy(b []byte) []byte {
	wide := append(bytes.Clone(b), "not yours to write"...)
	return wide[:len(b)]
}

// full is a list with its spare room.
func full[T any](l []T) []T { return l[:cap(l)] }

// scribble writes over bytes and their spare room.
func scribble(b []byte) {
	for i := range full(b) {
		full(b)[i] ^= 0x5a
	}
}

// wantApart writes over one list behind the other, and looks whether another one changes with it.
func wantApart(t *testing.T, what string, lists [][]byte) {
	t.Helper()
	for i := range lists {
		for k, b := range lists {
			for at := range full(b) {
				full(b)[at] = byte(k)
			}
		}
		scribble(lists[i])
		for k, b := range lists {
			for _, x := range full(b) {
				if k != i && x != byte(k) {
					t.Fatalf("rule 5: %s: the lists %d and %d share memory", what, i, k)
				}
			}
		}
	}
}

// bytesOf are all lists of bytes in writes and records.
func bytesOf(ws []api.Write, l []api.Record) [][]byte {
	var lists [][]byte
	for _, w := range ws {
		lists = append(lists, w.Bytes)
	}
	for _, r := range l {
		lists = append(lists, r.Body)
	}
	return lists
}

// wantUntouched makes a call with bytes that have spare room, and looks whether they changed.
func wantUntouched(t *testing.T, what string, call func(), lists ...[]byte) {
	t.Helper()
	var before [][]byte
	for _, b := range lists {
		before = append(before, bytes.Clone(full(b)))
	}
	call()
	for i, b := range lists {
		if !bytes.Equal(full(b), before[i]) {
			t.Fatalf("rule 5: %s changed what it was handed", what)
		}
	}
}

// roomyDisks are disks of all kinds, with spare room.
func roomyDisks() []api.Disk {
	l := []api.Record{rec(1, "one"), rec(2, ""), rec(3, "three")}
	clean, torn := file(4, 1, l...), append(file(4, 1, l...), 1, 0)
	spent := append(file(api.MaxCount, 1, l...), 1)
	var list []api.Disk
	for _, d := range []api.Disk{
		{}, {A: file(1, 0)[:9]}, {A: clean}, {B: clean}, {A: torn}, {B: torn}, {A: torn, B: file(3, 1, l...)},
		{A: file(3, 1, l...), B: torn}, {A: clean, B: torn}, {A: torn, B: torn}, {A: spent}, {B: spent}, {A: pattern(40), B: pattern(20)},
	} {
		list = append(list, api.Disk{A: roomy(d.A), B: roomy(d.B)})
	}
	return list
}

// TestArgumentsStay: rule 5, what is handed in is not changed, be it taken or refused.
func TestArgumentsStay(t *testing.T) {
	for _, d := range roomyDisks() {
		wantUntouched(t, "Open", func() { journal.Open(d) }, d.A, d.B)
		wantUntouched(t, "Each", func() { gone(t, journal.Each(d)) }, d.A, d.B)
		wantUntouched(t, "the journal that Open answers", func() {
			if j, _, _, e := journal.Open(d); e == api.OK {
				j.Append(rec(2, "x"))
				j.Compact(rec(1, "y"))
				j.Append(rec(2, "z"))
			}
		}, d.A, d.B)
	}
	j, _, _ := made(t)
	for _, n := range []int{0, 1, 8, 4200, 4201} {
		body := roomy(pattern(n))
		wantUntouched(t, "Append", func() { j.Append(api.Record{Kind: 2, Body: body}) }, body)
		wantUntouched(t, "Compact", func() { j.Compact(api.Record{Kind: 1, Body: body}) }, body)
		wantUntouched(t, "Append", func() { j.Append(api.Record{Kind: 5, Body: body}) }, body)
	}
	r := rand.New(rand.NewSource(7))
	for range 300 {
		d := api.Disk{A: roomy(randomBytes(r, r.Intn(5))), B: roomy(randomBytes(r, r.Intn(5)))}
		ws := drawnWrites(r)
		for i := range ws {
			ws[i].Bytes = roomy(ws[i].Bytes)
		}
		before := append([]api.Write(nil), ws...)
		wantUntouched(t, "Apply", func() {
			for k := -1; k <= journal.Cost(ws)+1; k++ {
				journal.Apply(d, ws, k)
			}
		}, append(bytesOf(ws, nil), d.A, d.B)...)
		wantWrites(t, "rule 5: Apply changed its writes", ws, before)
	}
}

// TestOpenApart: rule 5, what Open and Each answer shares no memory with the disk, nor with one another.
func TestOpenApart(t *testing.T) {
	for _, d := range roomyDisks() {
		lists := [][]byte{d.A, d.B}
		each := journal.Each(d)
		for range 2 {
			_, l, ws, _ := journal.Open(d)
			lists = append(lists, bytesOf(ws, l)...)
			for _, r := range each {
				lists = append(lists, r.Body)
			}
			for _, r := range journal.Each(d) {
				lists = append(lists, r.Body)
			}
		}
		wantApart(t, "Open", lists)
	}
}

// TestOpenLists: the lists of two answers are apart too, with their spare room.
func TestOpenLists(t *testing.T) {
	d := api.Disk{A: append(file(4, 1, rec(1, "one"), rec(2, "two"), rec(3, "three")), 1)}
	_, l, ws, _ := journal.Open(d)
	_, again, wsAgain, _ := journal.Open(d)
	each := journal.Each(d)
	for i := range full(l) {
		full(l)[i] = api.Record{}
	}
	for i := range full(ws) {
		full(ws)[i] = api.Write{}
	}
	wantSame(t, "rule 5: the lists of two answers", again, parse(d.A).records)
	wantSame(t, "rule 5: Each", gone(t, each), parse(d.A).records)
	if len(wsAgain) != 1 || wsAgain[0].File != 1 {
		t.Error("rule 5: the writes of two answers share memory")
	}
}

// TestWritesApart: rule 5, the writes of all calls are new memory, and nothing of a record that was handed in is kept.
func TestWritesApart(t *testing.T) {
	j, ws := journal.New()
	_, other := journal.New()
	lists := append(bytesOf(ws, nil), bytesOf(other, nil)...)
	for i, n := range []int{0, 1, 5, 8, 100, 4200, 0, 3} {
		body := roomy(pattern(n))
		r := api.Record{Kind: 1 + i%4, Body: body}
		a, _ := j.Append(r)
		b, _ := j.Append(r)
		c, _ := j.Compact(r)
		for _, w := range [][]api.Write{a, b, c} {
			lists = append(lists, bytesOf(w, nil)...)
		}
		lists = append(lists, body)
	}
	wantApart(t, "New, Append and Compact", lists)
}

// TestJournalKeepsNothing: what is written into arguments and answers changes nothing of the journal.
func TestJournalKeepsNothing(t *testing.T) {
	r := rand.New(rand.NewSource(8))
	for _, d := range roomyDisks() {
		mine := api.Disk{A: roomy(d.A), B: roomy(d.B)}
		m, _, _ := open(d)
		j, l, ws, _ := journal.Open(mine)
		if j == nil {
			continue
		}
		scribble(mine.A)
		scribble(mine.B)
		for range 20 {
			for _, b := range bytesOf(ws, l) {
				scribble(b)
			}
			x := drawn(r)
			body := roomy(x.Body)
			var want []api.Write
			var e api.Errno
			if r.Intn(4) == 0 && m.generation < api.MaxCount {
				want, _ = m.compact(x)
				ws, e = j.Compact(api.Record{Kind: x.Kind, Body: body})
			} else {
				want, _ = m.append(x)
				ws, e = j.Append(api.Record{Kind: x.Kind, Body: body})
			}
			if e == api.OK {
				wantWrites(t, "rule 5: behind writing into what was handed in and answered", ws, want)
			}
			wantAt(t, j, m)
			scribble(body)
		}
	}
}

// TestApplyApart: rule 5, the disks that Apply answers share nothing, also where a disk's own bytes are written.
func TestApplyApart(t *testing.T) {
	r := rand.New(rand.NewSource(9))
	for range 100 {
		d := api.Disk{A: roomy(randomBytes(r, r.Intn(20))), B: roomy(randomBytes(r, r.Intn(20)))}
		ws := drawnWrites(r)
		lists := append(bytesOf(ws, nil), d.A, d.B)
		if r.Intn(3) == 0 {
			ws = append(ws, api.Write{File: r.Intn(2), Start: true, Bytes: d.A}, api.Write{File: r.Intn(2), Bytes: d.B})
		}
		for k := -1; k <= min(journal.Cost(ws), 60); k++ {
			x := journal.Apply(d, ws, k)
			lists = append(lists, x.A, x.B)
		}
		wantApart(t, "Apply", lists)
	}
}

// TestOnlyItsOwnCalls: rules 6 and 7: other journals and calls change nothing, and asking neither.
func TestOnlyItsOwnCalls(t *testing.T) {
	j, m, d := made(t)
	other, _, _ := made(t)
	for n := range 30 {
		other.Append(rec(1, "elsewhere"))
		if n%3 == 0 {
			other.Compact(rec(1, "elsewhere"))
		}
		opened, _, _, _ := journal.Open(d)
		opened.Append(rec(3, "not here"))
		opened.Compact(rec(3, "not here"))
		journal.Cost([]api.Write{{Bytes: pattern(9)}})
		gone(t, journal.Each(d))
		if n%7 == 6 {
			d = all(d, wantCompact(t, j, m, rec(1, "whole")))
		}
		d = all(d, wantAppend(t, j, m, rec(2, "on")))
		wantRecords(t, d, m.records)
	}
}

func heapInUse() int {
	runtime.GC()
	var s runtime.MemStats
	runtime.ReadMemStats(&s)
	return int(s.HeapAlloc)
}

// TestKeepsLittle: rule 8: a journal keeps nothing of its records, nor of the disk that it was opened from.
func TestKeepsLittle(t *testing.T) {
	_, _, d := filled(t, api.MaxFile)
	var l []*journal.Journal
	before := heapInUse()
	for n := range 200 {
		mine := api.Disk{A: bytes.Clone(d.A[:len(d.A)-n%2])}
		j, _, _, e := journal.Open(mine)
		if e != api.OK {
			t.Fatalf("P12.3: error %d", e)
		}
		if n%4 > 1 {
			j.Compact(api.Record{Kind: 1, Body: pattern(4200)})
			j.Append(api.Record{Kind: 2, Body: pattern(4200)})
		}
		l = append(l, j)
	}
	if grown := heapInUse() - before; grown > 200*1000 {
		t.Errorf("rule 8: 200 journals keep %d bytes", grown)
	}
	runtime.KeepAlive(l)
	runtime.KeepAlive(d)
}

// TestEachKeepsLittle: what Each answers keeps the records of the picked file, and neither file.
func TestEachKeepsLittle(t *testing.T) {
	var l []func(func(int, api.Record) bool)
	before := heapInUse()
	for range 100 {
		wide := make([]byte, 1<<20)
		n := copy(wide, file(2, 1, rec(1, "a")))
		_, _, d := filled(t, api.MaxFile)
		l = append(l, journal.Each(api.Disk{A: d.A, B: wide[:n]}))
	}
	if grown := heapInUse() - before; grown > 100*2000 {
		t.Errorf("rule 5: 100 answers of Each keep %d bytes", grown)
	}
	runtime.KeepAlive(l)
}

package journal_test

import (
	"bytes"
	"testing"

	"quorate/api"
	"quorate/journal"
)

// several are disks with what Each gives of them.
func several() []struct {
	disk    api.Disk
	records []api.Record
} {
	l := []api.Record{rec(1, "one"), rec(2, ""), rec(2, "three"), rec(4, "four")}
	none := []api.Record(nil)
	return []struct {
		disk    api.Disk
		records []api.Record
	}{
		{api.Disk{}, none},
		{api.Disk{A: file(1, 0)[:10]}, none},
		{api.Disk{A: pattern(30), B: pattern(50)}, none},
		{api.Disk{A: file(1, 5, l...)}, none},
		{api.Disk{A: file(1, 0)}, none},
		{api.Disk{A: file(1, 0, l...)}, l},
		{api.Disk{B: file(2, 4, l...)}, l},
		{api.Disk{A: file(7, 2, l...), B: file(7, 1, l[1:]...)}, l},
		{api.Disk{A: file(7, 2, l...), B: file(8, 1, l[2:]...)}, l[2:]},
		{api.Disk{A: append(file(9, 1, l...), 3)}, l}, // not clean
		{api.Disk{A: file(api.MaxCount, 1, l...)}, l},
		{api.Disk{B: append(file(api.MaxCount, 1, l...), 3)}, l}, // Open answers ErrSpent
	}
}

// TestEach: P12.7, all passes give the same.
func TestEach(t *testing.T) {
	for _, c := range several() {
		each := journal.Each(c.disk)
		for range 3 {
			if got := gone(t, each); !sameRecords(got, c.records) {
				t.Fatalf("P12.7: Each of %s and %s: %s, want %s", shown(c.disk.A), shown(c.disk.B), shownRecords(got), shownRecords(c.records))
			}
		}
		wantOpen(t, c.disk)
	}
}

// TestEachStops: P12.7, until yield answers false, at every place, and the next pass begins anew.
func TestEachStops(t *testing.T) {
	for _, c := range several() {
		each := journal.Each(c.disk)
		for stop := range len(c.records) {
			var l []api.Record
			each(func(i int, r api.Record) bool {
				if i != len(l) {
					t.Fatalf("P12.7: place %d behind %d records", i, len(l))
				}
				l = append(l, r)
				return i < stop
			})
			if !sameRecords(l, c.records[:stop+1]) {
				t.Fatalf("P12.7: told to stop at %d: %s", stop, shownRecords(l))
			}
		}
		if got := gone(t, each); !sameRecords(got, c.records) {
			t.Fatalf("P12.7: behind passes that were left: %s", shownRecords(got))
		}
	}
}

// TestEachWithin: P12.7, one pass within another, of the same answer and of another one.
func TestEachWithin(t *testing.T) {
	for _, c := range several() {
		each, other := journal.Each(c.disk), journal.Each(c.disk)
		var outer []api.Record
		for _, r := range each {
			outer = append(outer, r)
			for i := range each {
				if i == len(outer)/2 {
					break
				}
			}
			for _, e := range []func(func(int, api.Record) bool){each, other} {
				if got := gone(t, e); !sameRecords(got, c.records) {
					t.Fatalf("P12.7: a pass within another gives %s, want %s", shownRecords(got), shownRecords(c.records))
				}
			}
		}
		if !sameRecords(outer, c.records) {
			t.Fatalf("P12.7: a pass with others within it gives %s, want %s", shownRecords(outer), shownRecords(c.records))
		}
	}
}

// TestEachAtOnce: passes on goroutines of their own.
func TestEachAtOnce(t *testing.T) {
	each := journal.Each(api.Disk{A: file(1, 0, rec(1, "a"), rec(2, "b"))})
	sizes := make(chan int)
	for range 4 {
		go func() {
			n := 0
			for _, r := range each {
				r.Body[0] = 0
				n += len(r.Body)
			}
			sizes <- n
		}()
	}
	for range 4 {
		if n := <-sizes; n != 2 {
			t.Errorf("P12.7: a pass beside others gives %d bytes", n)
		}
	}
}

// TestEachKeepsNothing: P12.7, what is written into the disk behind the call, or into what a pass gave, changes no pass.
func TestEachKeepsNothing(t *testing.T) {
	for _, c := range several() {
		d := api.Disk{A: bytes.Clone(c.disk.A), B: bytes.Clone(c.disk.B)}
		each := journal.Each(d)
		scribble(d.A)
		scribble(d.B)
		for range 2 {
			got := gone(t, each)
			if !sameRecords(got, c.records) {
				t.Fatalf("P12.7: Each keeps its argument, or what it gave: %s, want %s", shownRecords(got), shownRecords(c.records))
			}
			for _, r := range got {
				scribble(r.Body)
			}
		}
	}
}

// TestEachLeft: a loop that is left by a panic or a return takes its own way out; a pass that nobody takes ends.
func TestEachLeft(t *testing.T) {
	each := journal.Each(api.Disk{A: append(file(1, 0, rec(1, "a"), rec(2, "b")), 9)})
	for _, thrown := range []any{api.ErrTorn, api.ErrLong, "mine"} {
		func() {
			defer func() {
				if x := recover(); x != thrown {
					t.Errorf("P12.7: a loop's own panic with %v comes out as %v", thrown, x)
				}
			}()
			for range each {
				panic(thrown)
			}
		}()
	}
	first := func() int {
		for _, r := range each {
			return r.Kind
		}
		return 0
	}
	if first() != 1 || first() != 1 {
		t.Error("P12.7: a loop that is left by a return")
	}
	each(nil)
	if got := gone(t, each); len(got) != 2 {
		t.Errorf("P12.7: then %s", shownRecords(got))
	}
}

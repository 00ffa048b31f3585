package replica_test

import (
	"bytes"
	"testing"

	"quorate/api"
	"quorate/machine"
	"quorate/replica"
)

func wantNone(t *testing.T, c api.Config, self, inc int, l []api.Record, want api.Errno) {
	t.Helper()
	if r, e := replica.New(c, self, inc, l); r != nil || e != want {
		t.Errorf("R2: New(%+v, %d, %d, %v) = %v, error %d, want none, error %d", c, self, inc, l, r, e, want)
	}
}

// TestNewArguments: R2, each number of a configuration at and beyond its ends, self and inc; they come ahead of the records.
func TestNewArguments(t *testing.T) {
	bad := []api.Record{{Kind: 9}}
	good := config(3)
	for i := range numbered(&good) {
		c := config(3)
		x := numbered(&c)[i]
		for _, n := range append(far(), x.low-1, x.high+1) {
			if *x.n = n; n < x.low || n > x.high {
				wantNone(t, c, 0, 1, nil, api.ErrArg)
				wantNone(t, c, 0, 1, bad, api.ErrArg)
			}
		}
		for _, n := range []int{x.low, x.high} {
			if *x.n = n; i > 0 {
				c.Cap = max(c.Cap, c.Base, c.Step)
				made(t, c, 2, 1)
			}
		}
	}
	for _, votes := range [][]int{nil, {1, 1}, {1, 1, 1, 1}, {0, 0, 0}, {1, -1, 1}, {1, 1, 10}, {-1, 1, 1}, make([]int, 17)} {
		c := config(3)
		c.Votes = votes
		wantNone(t, c, 0, 1, bad, api.ErrArg)
	}
	c := config(3)
	c.Cap = 1 // below Base
	wantNone(t, c, 0, 1, nil, api.ErrArg)
	wantNone(t, config(17), 0, 1, nil, api.ErrArg)
	wantNone(t, api.Config{}, 0, 1, nil, api.ErrArg)
	for _, self := range append(far(), 3, 16) {
		wantNone(t, config(3), self, 1, bad, api.ErrArg)
	}
	for _, inc := range append(far(), 0) {
		wantNone(t, config(3), 0, inc, bad, api.ErrArg)
	}
	for nodes := 1; nodes <= 16; nodes++ {
		made(t, config(nodes), nodes-1, api.MaxCount)
	}
}

// numbered: each number of a configuration, with its ends.
func numbered(c *api.Config) []struct {
	n         *int
	low, high int
} {
	return []struct {
		n         *int
		low, high int
	}{
		{&c.Nodes, 3, 3}, {&c.Window, 1, api.MaxWindow}, {&c.Cap, 2, api.MaxCap}, {&c.Base, 1, c.Cap}, {&c.Step, 1, c.Cap},
		{&c.Room, 1, api.MaxRoom}, {&c.Floor, 0, api.MaxCount},
	}
}

// TestNewFresh: R2, out of no records.
func TestNewFresh(t *testing.T) {
	for _, l := range [][]api.Record{nil, {}} {
		r := made(t, config(3), 1, 1, l...)
		wantStatus(t, r, api.Status{})
		wantMarks(t, r)
		wantRecords(t, r)
		wantNext(t, r, nil)
		wantLog(t, r)
		if !bytes.Equal(r.Snapshot(), machine.New().Snapshot()) || len(r.Pairs()) > 0 {
			t.Error("R2: the machine is not empty")
		}
		if n := replica.Promise(l); n != 0 {
			t.Errorf("R1: Promise of no records is %d", n)
		}
		refused(t, r, safe(1), api.ErrNote) // no view
	}
}

// TestReplay: R2, what records leave, one after the other.
func TestReplay(t *testing.T) {
	l := many(5)
	records := []api.Record{
		recPromise(4), recAppend(l[0]), recAppend(l[1]), recSafe(0), recSafe(1), recPromise(3), recSafe(1), recSafe(2), recAppend(l[2]),
		recState(6, state(5, 1, l[3], l[4])), recPromise(2), recState(1, state(9, 0, l[0])), recAppend(l[1]), recSafe(1), recAppend(l[2]),
	}
	marks := [][]api.Mark{5: {apply(1, l[0], done)}, 8: {apply(1, l[0], done), apply(2, l[1], done)}, 14: {apply(1, l[0], done)}}
	for n, want := range map[int]api.Status{
		0: {}, 1: {Promise: 4}, 2: {Promise: 4, Length: 1}, 3: {Promise: 4, Length: 2}, 4: {Promise: 4, Length: 2}, 5: {Promise: 4, Base: 1, Length: 2},
		6: {Promise: 4, Base: 1, Length: 2}, 7: {Promise: 4, Base: 1, Length: 2}, 8: {Promise: 4, Base: 2, Length: 2}, 9: {Promise: 4, Base: 2, Length: 3},
		10: {Promise: 6, Epoch: 5, Base: 1, Length: 2}, 11: {Promise: 6, Epoch: 5, Base: 1, Length: 2}, 12: {Promise: 6, Epoch: 9, Length: 1},
		13: {Promise: 6, Epoch: 9, Length: 2}, 14: {Promise: 6, Epoch: 9, Base: 1, Length: 2}, 15: {Promise: 6, Epoch: 9, Base: 1, Length: 3},
	} {
		r := made(t, config(3), 2, 7, records[:n]...)
		wantStatus(t, r, want)
		wantRecords(t, r)
		if n < len(marks) && marks[n] != nil {
			wantMarks(t, r, marks[n]...)
		}
		if n >= 10 && n <= 13 {
			wantMarks(t, r)
		}
	}
	r := made(t, config(3), 2, 7, records...)
	wantLog(t, r, l[1], l[2])
	wantMarks(t, r, apply(1, l[0], done))
	if !bytes.Equal(r.Snapshot(), shot(l[0])) {
		t.Error("R2: the machine is another than the records leave")
	}
	if n := replica.Promise(records); n != 9 {
		t.Errorf("R1: Promise is %d, want the greatest epoch, 9", n)
	}
}

// TestReplayOwn: R2, entries of this very client and incarnation are told as done, and answer nobody.
func TestReplayOwn(t *testing.T) {
	c := set(0, 1, 1, "a", "x")
	r := made(t, config(3), 0, 1, recAppend(c), recSafe(1))
	wantMarks(t, r, apply(1, c, done))
	wantStatus(t, r, api.Status{Base: 1, Length: 1})
}

// TestReplayRefused: R2, every record that cannot be replayed, at each place.
func TestReplayRefused(t *testing.T) {
	l := many(17)
	top := state(1, 0)
	top.Base = api.MaxCount
	for _, records := range [][]api.Record{
		{recSafe(1)}, {recAppend(l[0]), recSafe(2)}, {recAppend(l[0]), recSafe(1), recSafe(0)},
		{recState(0, state(0, 2, l[:3]...)), recSafe(1)}, {recState(0, state(0, 2, l[:3]...)), recSafe(4)},
		{recState(0, top), recAppend(l[0])}, {recState(0, state(0, 0, l[:16]...)), recAppend(l[16])},
		{recSafe(0), recState(0, state(0, 0, l...))},
		{{Kind: 0}}, {{Kind: 5}}, {{Kind: -1}}, {{Kind: 0, Body: counts(1)}}, {{Kind: 5, Body: counts(1)}}, {{Kind: 1<<32 + 4, Body: counts(1)}},
		{{Kind: api.RecState}}, {{Kind: api.RecAppend}}, {{Kind: api.RecSafe}}, {{Kind: api.RecPromise}},
		{{Kind: api.RecSafe, Body: []byte{0, 0}}}, {{Kind: api.RecPromise, Body: []byte{1, 1}}}, {{Kind: api.RecPromise, Body: []byte{0x81, 0}}},
		{{Kind: api.RecSafe, Body: []byte{0x80, 0}}}, {{Kind: api.RecPromise, Body: []byte{0x80}}}, {{Kind: api.RecPromise, Body: counts(api.MaxCount + 1)}},
	} {
		wantNone(t, config(3), 0, 1, records, api.ErrRecord)
		wantNone(t, config(3), 0, 1, append(records, recState(0, state(0, 0))), api.ErrRecord)
		made(t, config(3), 0, 1, records[:len(records)-1]...)
	}
	r := made(t, config(3), 0, 1, recState(0, state(0, 0, l[:15]...)), recAppend(l[15]), recSafe(1), recAppend(l[16])) // there is room again
	wantStatus(t, r, api.Status{Base: 1, Length: 17})
	top.Base--
	r = made(t, config(3), 0, 1, recState(0, top), recAppend(l[0]), recSafe(api.MaxCount))
	wantStatus(t, r, api.Status{Epoch: 1, Base: api.MaxCount, Length: api.MaxCount})
	wantMarks(t, r, apply(api.MaxCount, l[0], done))
	wantNone(t, config(3), 0, 1, []api.Record{recState(0, top), recAppend(l[0]), recAppend(l[0])}, api.ErrRecord)
}

// TestPromise: R1, what counts and what does not.
func TestPromise(t *testing.T) {
	wrong := state(99, 0)
	wrong.Snapshot = append(wrong.Snapshot, 0)
	for _, c := range []struct {
		l    []api.Record
		want int
	}{
		{[]api.Record{recPromise(0)}, 0}, {[]api.Record{recPromise(api.MaxCount), recPromise(1)}, api.MaxCount},
		{[]api.Record{recState(3, state(8, 0)), recPromise(5)}, 8}, {[]api.Record{recState(8, state(3, 0)), recPromise(5)}, 8}, {[]api.Record{recPromise(9), recState(8, state(3, 0))}, 9},
		{[]api.Record{recSafe(77), recAppend(set(0, 99, 99, "a", "b")), recPromise(1)}, 1}, {[]api.Record{recPromise(1), recState(88, wrong)}, 1},
		{[]api.Record{recPromise(1), {Kind: 4, Body: counts(7, 7)}, {Kind: 4}, {Kind: 4, Body: counts(api.MaxCount + 1)}, {Kind: 5, Body: counts(9)}, {Kind: 0, Body: counts(9)}}, 1},
		{[]api.Record{{Kind: 1, Body: join(recState(7, state(6, 0)).Body, []byte{0})}, {Kind: 1, Body: stateText(state(6, 0))}, recPromise(2)}, 2},
		{[]api.Record{recState(api.MaxCount, state(api.MaxCount, 0))}, api.MaxCount},
	} {
		if n := replica.Promise(c.l); n != c.want {
			t.Errorf("R1: Promise of %v is %d, want %d", c.l, n, c.want)
		}
	}
}

// TestPromiseStays: R2, the promise of a replica is that of its records, without their epochs.
func TestPromiseStays(t *testing.T) {
	r := made(t, config(3), 0, 1, recState(3, state(8, 0)))
	wantStatus(t, r, api.Status{Promise: 3, Epoch: 8})
	taken(t, r, install(viewOf(3, 0, 1)))
	wantRecords(t, r) // it is promised already
	taken(t, r, install(viewOf(4, 0, 1)))
	wantRecords(t, r, recPromise(4))
}

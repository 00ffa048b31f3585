package replica_test

import (
	"testing"

	"quorate/api"
	"quorate/machine"
	"quorate/replica"
)

// each is a replica in every mode, with and without a pending command, and with one that is under way.
func each(t *testing.T) []*replica.Replica {
	t.Helper()
	v := viewOf(5, 0, 1)
	l := many(3)
	none, idle, owing := made(t, config(3), 0, 1), made(t, config(3), 0, 1, recState(2, state(1, 1, l...))), made(t, config(3), 0, 1)
	taken(t, idle, install(viewOf(5, 0)))
	taken(t, owing, install(v))
	pending, underWay := active(t, config(3), 0, v, state(0, 0)), active(t, config(3), 0, v, state(0, 0, l...))
	wantSubmit(t, pending, set(0, 0, 0, "a", "x"), 1, api.OK)
	wantSubmit(t, underWay, set(0, 0, 0, "a", "x"), 1, api.OK)
	underWay.Sent()
	return []*replica.Replica{
		none, idle, owing, joining(t, config(3), 0, v), adopted(t, config(3), 0, v, state(0, 1, l...)), active(t, config(3), 0, v, state(0, 1, l...)), pending, underWay,
	}
}

// TestSubmitErrors: R5, each error, and which comes first.
func TestSubmitErrors(t *testing.T) {
	bad := []api.Command{{}, {Op: 10, Key: "a"}, {Op: -1, Key: "a"}, {Op: api.OpSet}, {Op: api.OpSet, Key: "123456789"}, {Op: api.OpGet, Key: "a", Val: "x"}, {Op: api.OpGet, Key: "a", Old: "x"}, {Op: api.OpAdd, Key: "a", Val: "07"}}
	good := []api.Command{{Op: api.OpSet, Key: "a"}, {Op: api.OpEnd, Val: "15"}, {Op: api.OpCas, Key: "12345678", Val: "12345678", Old: "12345678"}}
	for i, r := range each(t) {
		want := api.ErrIdle
		if i > 5 {
			want = api.ErrPending
		}
		before := faceOf(r)
		for _, c := range bad {
			wantSubmit(t, r, c, 0, api.ErrCommand)
		}
		for _, c := range good {
			if i == 5 {
				break // it would be taken
			}
			wantSubmit(t, r, c, 0, want)
		}
		wantFace(t, "R5: behind a refused Submit", faceOf(r), before)
	}
}

// TestSubmit: R5 and R6, of a command just four fields count; the numbers rise with what is taken alone.
func TestSubmit(t *testing.T) {
	r := active(t, config(3), 2, view(5, api.Member{Pid: 1, Inc: 3, Cid: 1}, api.Member{Pid: 2, Inc: 300, Cid: 4}), state(0, 0))
	for n := 1; n <= 5; n++ {
		c := cmd(-5, n, api.MaxCount, api.OpCas, "k", "v", "o")
		wantSubmit(t, r, api.Command{Op: 99}, 0, api.ErrCommand)
		wantSubmit(t, r, c, n, api.OK)
		wantSubmit(t, r, c, 0, api.ErrPending)
		c.Client, c.Inc, c.Req = 2, 300, n
		wantStatus(t, r, api.Status{Mode: api.ModeActive, Promise: 5, Epoch: 5, Base: n - 1, Length: n - 1, Pending: 1})
		wantNext(t, r, commandBlob(n-1, c))
		wantRecords(t, r)
		wantMarks(t, r)
		r.Sent()
		wantNext(t, r, nil)
		r.Sent() // nothing was told
		wantNext(t, r, nil)
		taken(t, r, deliver(2, 2+n, commandBlob(n-1, c)), safe(2+n))
		wantMarks(t, r, apply(n, c, api.Result{Code: api.ResNone}), reply(c, api.Result{Code: api.ResNone}))
		quiet(r)
		wantStatus(t, r, api.Status{Mode: api.ModeActive, Promise: 5, Epoch: 5, Base: n, Length: n})
	}
}

// TestNextTellsTheBase: R6, the base as it is now, till the group has taken it.
func TestNextTellsTheBase(t *testing.T) {
	r := active(t, config(3), 0, viewOf(5, 0, 1), state(0, 0))
	c := set(0, 1, 1, "a", "x")
	wantSubmit(t, r, c, 1, api.OK)
	for n := range 3 {
		wantNext(t, r, commandBlob(n, c))
		taken(t, r, deliver(1, 3+n, commandBlob(n, set(1, 1, 1+n, "a", "x"))), safe(3+n))
	}
	wantNext(t, r, commandBlob(3, c))
}

// TestStateFirst: R6 and R7, the own state goes ahead of a command, and tells the log as it is now; Sent means what Next tells.
func TestStateFirst(t *testing.T) {
	r := made(t, config(3), 0, 1)
	taken(t, r, install(viewOf(5, 0, 1)))
	wantNext(t, r, stateBlob(state(0, 0)))
	taken(t, r, deliver(0, 1, stateBlob(state(0, 0))), deliver(1, 2, stateBlob(state(0, 0))), safe(2)) // nobody has told that the group took it
	wantNext(t, r, stateBlob(state(5, 0)))
	c := set(0, 1, 1, "a", "x")
	wantSubmit(t, r, c, 1, api.OK)
	wantNext(t, r, stateBlob(state(5, 0)))
	r.Sent()
	wantNext(t, r, commandBlob(0, c))
	r.Sent()
	wantNext(t, r, nil)
}

// TestSentAgain: R7, a command that was under way goes again in the next quorate view in which the replica is active.
func TestSentAgain(t *testing.T) {
	r := active(t, config(3), 0, viewOf(5, 0, 1), state(0, 0))
	c := set(0, 1, 1, "a", "x")
	wantSubmit(t, r, c, 1, api.OK)
	r.Sent()
	taken(t, r, api.Note{Kind: api.NoteBlock})
	wantNext(t, r, nil)
	taken(t, r, install(viewOf(6, 0)))
	wantNext(t, r, nil)
	r.Sent()
	taken(t, r, install(viewOf(7, 0, 1)))
	wantNext(t, r, stateBlob(state(5, 0)))
	r.Sent()
	wantNext(t, r, nil)
	r.Sent()
	taken(t, r, deliver(0, 1, stateBlob(state(5, 0))), deliver(1, 2, stateBlob(state(5, 0))))
	wantNext(t, r, nil)
	r.Sent() // it tells nothing yet: nothing is under way by that
	taken(t, r, safe(2))
	wantNext(t, r, commandBlob(0, c))
	wantSubmit(t, r, c, 0, api.ErrPending)
	r.Sent()
	taken(t, r, deliver(0, 3, commandBlob(0, c)), safe(3))
	wantStatus(t, r, api.Status{Mode: api.ModeActive, Promise: 7, Epoch: 7, Base: 1, Length: 1})
	wantSubmit(t, r, c, 2, api.OK)
	wantNext(t, r, commandBlob(1, set(0, 1, 2, "a", "x")))
}

// TestNoStateOwed: R3 and R6, a view that is not quorate takes back what was to be sent.
func TestNoStateOwed(t *testing.T) {
	r := made(t, config(3), 0, 1)
	taken(t, r, install(viewOf(5, 0, 1)), install(viewOf(6, 0)))
	wantNext(t, r, nil)
	r.Sent()
	taken(t, r, install(viewOf(7, 0, 1)))
	wantNext(t, r, stateBlob(state(0, 0)))
	taken(t, r, install(viewOf(8, 0, 1)))
	wantNext(t, r, stateBlob(state(0, 0)))
}

// TestCheckpointBack: R14 and P16, out of every mode.
func TestCheckpointBack(t *testing.T) {
	for _, r := range each(t) {
		want := faceOf(r)
		x := made(t, config(3), 0, 1, r.Checkpoint())
		wantMarks(t, x)
		wantRecords(t, x)
		want.status.Mode, want.status.Pending, want.next, want.hasNext = api.ModeIdle, 0, nil, false
		wantFace(t, "R14", faceOf(x), want)
	}
}

// TestTelling: R9, what a replica tells is its log's and its machine's; it goes on behind a halt, and telling changes nothing.
func TestTelling(t *testing.T) {
	l := many(6)
	r := adopted(t, config(3), 0, viewOf(5, 0, 1), state(0, 3, l...))
	m := machine.New()
	for _, c := range l[:3] {
		m.Apply(c)
	}
	for range 3 {
		wantLog(t, r, l[3:]...)
		wantStatus(t, r, api.Status{Mode: api.ModeAdopted, Promise: 5, Epoch: 5, Base: 3, Length: 6})
		f := faceOf(r)
		if string(f.snapshot) != string(m.Snapshot()) || len(f.pairs) != len(m.Pairs()) || !sameRecord(f.checkpoint, recState(5, state(5, 3, l...))) {
			t.Fatalf("R9: it tells %+v", f)
		}
	}
	taken(t, r, api.Note{Kind: api.NoteHalt})
	wantLog(t, r, l[3:]...)
	wantStatus(t, r, api.Status{Promise: 5, Epoch: 5, Base: 3, Length: 6})
}

// TestTakenOut: R8, marks and records of several calls come together, in their order, and once.
func TestTakenOut(t *testing.T) {
	l := many(2)
	v := viewOf(5, 0, 1)
	r := made(t, config(3), 0, 1, recAppend(l[0]), recSafe(1))
	taken(t, r, install(v), deliver(0, 1, stateBlob(state(0, 1, l[0]))), deliver(1, 2, stateBlob(state(0, 0))))
	c, d := set(1, 1, 1, "z", "x"), set(1, 1, 2, "y", "y")
	taken(t, r, deliver(1, 3, commandBlob(1, c)), deliver(1, 4, commandBlob(2, d)), safe(4))
	wantMarks(t, r, apply(1, l[0], done), adopt(v.ID, 1, 1), apply(2, c, done), apply(3, d, done))
	wantRecords(t, r, recPromise(5), recState(5, state(5, 1, l[0])), recAppend(c), recSafe(2), recAppend(d), recSafe(3))
}

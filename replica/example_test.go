package replica_test

import (
	"testing"

	"quorate/api"
	"quorate/machine"
	"quorate/replica"
)

// TestExamples: section 14.9, 1 to 4.
func TestExamples(t *testing.T) {
	m0 := machine.New().Snapshot()
	if len(m0) != 11 {
		t.Fatalf("the snapshot of the empty machine has %d bytes", len(m0))
	}
	r := made(t, config(3), 0, 1) // 1
	wantStatus(t, r, api.Status{})
	wantSubmit(t, r, api.Command{Op: api.OpSet, Key: "a", Val: "x"}, 0, api.ErrIdle)
	wantSubmit(t, r, api.Command{Op: 77}, 0, api.ErrCommand)
	wantNext(t, r, nil)
	own := join([]byte{1, 0, 0, 0x0b}, m0, []byte{0})
	refused(t, r, deliver(0, 1, own), api.ErrNote)
	if x := r.Checkpoint(); !sameRecord(x, api.Record{Kind: api.RecState, Body: join([]byte{0, 0, 0, 0x0b}, m0, []byte{0})}) {
		t.Fatalf("R9: the checkpoint is %v", x)
	}

	taken(t, r, install(view(1, api.Member{Pid: 0, Inc: 1, Cid: 1}))) // 2
	wantStatus(t, r, api.Status{})
	wantRecords(t, r)
	two := view(2, api.Member{Pid: 0, Inc: 1, Cid: 2}, api.Member{Pid: 1, Inc: 1, Cid: 3})
	taken(t, r, install(two))
	wantStatus(t, r, api.Status{Mode: api.ModeJoining, Promise: 2})
	wantRecords(t, r, api.Record{Kind: api.RecPromise, Body: []byte{2}})
	wantNext(t, r, own)
	r.Sent()
	wantNext(t, r, nil)
	refused(t, r, install(two), api.ErrNote)

	taken(t, r, deliver(1, 1, own)) // 3
	refused(t, r, deliver(1, 2, own), api.ErrNote)
	refused(t, r, deliver(2, 2, own), api.ErrNote)
	taken(t, r, deliver(0, 2, own))
	wantStatus(t, r, api.Status{Mode: api.ModeAdopted, Promise: 2, Epoch: 2})
	wantMarks(t, r, api.Mark{Kind: api.MarkAdopt, ID: api.ViewID{Epoch: 2, Lead: 0, Inc: 1, Cid: 2}})
	wantRecords(t, r, api.Record{Kind: api.RecState, Body: join([]byte{2, 2, 0, 0x0b}, m0, []byte{0})})
	taken(t, r, safe(1))
	wantStatus(t, r, api.Status{Mode: api.ModeAdopted, Promise: 2, Epoch: 2})
	taken(t, r, safe(2))
	wantStatus(t, r, api.Status{Mode: api.ModeActive, Promise: 2, Epoch: 2})

	wantSubmit(t, r, api.Command{Op: api.OpSet, Key: "a", Val: "x"}, 1, api.OK) // 4
	wantSubmit(t, r, api.Command{Op: api.OpSet, Key: "a", Val: "x"}, 0, api.ErrPending)
	asked := []byte{0, 1, 1, 1, 1, 0x61, 1, 0x78, 0}
	wantNext(t, r, join([]byte{2, 0}, asked))
	r.Sent()
	wantNext(t, r, nil)
	taken(t, r, deliver(0, 3, join([]byte{2, 0}, asked)))
	wantStatus(t, r, api.Status{Mode: api.ModeActive, Promise: 2, Epoch: 2, Length: 1, Pending: 1})
	wantRecords(t, r, api.Record{Kind: api.RecAppend, Body: asked})
	taken(t, r, safe(3))
	wantStatus(t, r, api.Status{Mode: api.ModeActive, Promise: 2, Epoch: 2, Base: 1, Length: 1})
	c := set(0, 1, 1, "a", "x")
	wantMarks(t, r, apply(1, c, done), reply(c, done))
	wantRecords(t, r, api.Record{Kind: api.RecSafe, Body: []byte{1}})
}

// TestExampleNewer: 5 and 6.
func TestExampleNewer(t *testing.T) {
	two := view(2, api.Member{Pid: 0, Inc: 1, Cid: 2}, api.Member{Pid: 1, Inc: 1, Cid: 3})
	first, second := set(0, 1, 1, "a", "x"), set(0, 1, 2, "a", "y")
	r := active(t, config(3), 1, two, state(0, 0))
	taken(t, r, deliver(0, 3, commandBlob(0, first)))
	wantRecords(t, r, recAppend(first))
	taken(t, r, deliver(0, 4, commandBlob(1, second))) // 5
	wantMarks(t, r, apply(1, first, done))
	wantRecords(t, r, recSafe(1), recAppend(second))

	three := view(3, api.Member{Pid: 1, Inc: 1, Cid: 4}, api.Member{Pid: 2, Inc: 1, Cid: 2}) // 6
	other := made(t, config(3), 2, 1)
	var blobs [][]byte
	for i, x := range []*replica.Replica{r, other} {
		taken(t, x, install(three))
		b, _ := x.Next()
		x.Sent()
		blobs = append(blobs, b)
		wantRecords(t, x, recPromise(3))
		if want := []api.State{state(2, 1, first, second), state(0, 0)}[i]; string(b) != string(stateBlob(want)) {
			t.Fatalf("R6: the state is % x, want % x", b, stateBlob(want))
		}
	}
	for i, x := range []*replica.Replica{r, other} {
		taken(t, x, deliver(2, 1, blobs[1]), deliver(1, 2, blobs[0]))
		wantStatus(t, x, api.Status{Mode: api.ModeAdopted, Promise: 3, Epoch: 3, Base: 1, Length: 2})
		wantLog(t, x, second)
		wantMarks(t, x, adopt(three.ID, 2, 1))
		taken(t, x, safe(2))
		wantStatus(t, x, api.Status{Mode: api.ModeActive, Promise: 3, Epoch: 3, Base: 2, Length: 2})
		wantMarks(t, x, apply(2, second, api.Result{Code: api.ResDone, Val: "x", N: 1}))
		if string(x.Snapshot()) != string(shot(first, second)) {
			t.Fatalf("R10: node %d's machine is another", 1+i)
		}
	}
}

// TestExampleBack: 6, node 0 comes back: its switch answers by the session, if the entry is done by then; else the safe note does.
func TestExampleBack(t *testing.T) {
	two := view(2, api.Member{Pid: 0, Inc: 1, Cid: 2}, api.Member{Pid: 1, Inc: 1, Cid: 3})
	c := set(0, 1, 1, "a", "x")
	for _, isDone := range []bool{true, false} {
		r := active(t, config(3), 0, two, state(0, 0))
		wantSubmit(t, r, c, 1, api.OK)
		r.Sent()
		taken(t, r, install(view(3, api.Member{Pid: 0, Inc: 1, Cid: 3}))) // alone
		four := view(4, api.Member{Pid: 0, Inc: 1, Cid: 5}, api.Member{Pid: 1, Inc: 1, Cid: 7})
		taken(t, r, install(four))
		own, _ := r.Next()
		r.Sent()
		quiet(r)
		others := state(3, 0, c)
		if isDone {
			others = state(3, 1, c)
		}
		taken(t, r, deliver(0, 1, own), deliver(1, 2, stateBlob(others)))
		if isDone {
			wantMarks(t, r, adopt(four.ID, 1, 1), reply(c, done))
			wantStatus(t, r, api.Status{Mode: api.ModeAdopted, Promise: 4, Epoch: 4, Base: 1, Length: 1})
			continue
		}
		wantMarks(t, r, adopt(four.ID, 1, 0))
		wantStatus(t, r, api.Status{Mode: api.ModeAdopted, Promise: 4, Epoch: 4, Length: 1, Pending: 1})
		wantNext(t, r, nil)
		taken(t, r, safe(2))
		wantMarks(t, r, apply(1, c, done), reply(c, done))
		wantNext(t, r, nil)
	}
}

// TestExampleTorn: 7, no switch comes in a view in which a state is missing; a journal without the promise leaves a lower Floor.
func TestExampleTorn(t *testing.T) {
	before := []api.Record{recPromise(3), recState(3, state(3, 0))}
	a, b := made(t, config(3), 0, 1, before...), made(t, config(3), 1, 1, before...)
	four := viewOf(4, 0, 1)
	taken(t, a, install(four))
	own, _ := a.Next()
	a.Sent()
	taken(t, a, deliver(0, 1, own))
	wantStatus(t, a, api.Status{Mode: api.ModeJoining, Promise: 4, Epoch: 3})
	taken(t, b, install(four))
	wantRecords(t, b, recPromise(4))
	if n := replica.Promise(before); n != 3 {
		t.Fatalf("R1: without the torn record the promise is %d, want 3", n)
	}
	again := made(t, config(3), 1, 2, before...)
	taken(t, again, install(view(4, api.Member{Pid: 1, Inc: 2, Cid: 1}, api.Member{Pid: 2, Inc: 1, Cid: 1})))
	wantStatus(t, again, api.Status{Mode: api.ModeJoining, Promise: 4, Epoch: 3})
	if n := replica.Promise(append(before, recPromise(4))); n != 4 {
		t.Fatalf("R1: with the record the promise is %d, want 4", n)
	}
}

// TestExampleRecords: 8.
func TestExampleRecords(t *testing.T) {
	l := []api.Record{recPromise(5), recState(7, state(3, 0)), recPromise(2), {Kind: api.RecPromise, Body: []byte{0x80, 0}}}
	if n := replica.Promise(l); n != 7 {
		t.Fatalf("R1: Promise is %d, want 7", n)
	}
	if r, e := replica.New(config(3), 0, 1, []api.Record{recSafe(1)}); r != nil || e != api.ErrRecord {
		t.Fatalf("R2: New answers %v, error %d", r, e)
	}
}

// TestReadme: what README.md shows.
func TestReadme(t *testing.T) {
	c := api.Config{Nodes: 3, Window: 2, Base: 2, Step: 1, Cap: 8, Room: 100, Votes: []int{1, 1, 1}}
	r := made(t, c, 0, 1)
	v := view(2, api.Member{Pid: 0, Inc: 1, Cid: 2}, api.Member{Pid: 1, Inc: 1, Cid: 3})
	taken(t, r, install(v))
	wantStatus(t, r, api.Status{Mode: api.ModeJoining, Promise: 2})
	promise := r.Records()
	b, _ := r.Next()
	r.Sent()
	taken(t, r, deliver(1, 1, b), deliver(0, 2, b), safe(2))
	wantStatus(t, r, api.Status{Mode: api.ModeActive, Promise: 2, Epoch: 2})
	wantSubmit(t, r, api.Command{Op: api.OpSet, Key: "a", Val: "x"}, 1, api.OK)
	b, _ = r.Next()
	r.Sent()
	taken(t, r, deliver(0, 3, b), safe(3))
	x := set(0, 1, 1, "a", "x")
	wantMarks(t, r, adopt(v.ID, 0, 0), apply(1, x, done), reply(x, done))
	l := append(promise, r.Records()...)
	if len(promise) != 1 || len(l) != 4 || l[1].Kind != api.RecState || l[2].Kind != api.RecAppend || l[3].Kind != api.RecSafe {
		t.Fatalf("R8: the records are %v", l)
	}
	again := made(t, c, 0, 2, l...)
	if p := again.Pairs(); len(p) != 1 || p[0] != (api.Pair{Key: "a", Val: "x"}) || replica.Promise(l) != 2 {
		t.Fatalf("R2: the pairs are %v", p)
	}
}

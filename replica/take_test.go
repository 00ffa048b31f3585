package replica_test

import (
	"testing"

	"quorate/api"
)

// TestInstallRefused: R3, views that are none of three nodes, or not this replica's, or no later ones.
func TestInstallRefused(t *testing.T) {
	good := func() api.View {
		return view(5, api.Member{Pid: 0, Inc: 3, Cid: 4}, api.Member{Pid: 1, Inc: 2, Cid: 6}, api.Member{Pid: 2, Inc: 1, Cid: 9})
	}
	first := made(t, config(3), 1, 2)
	later := made(t, config(3), 1, 2)
	taken(t, later, install(view(4, api.Member{Pid: 1, Inc: 2, Cid: 5})))
	for at := range 3 {
		for _, n := range append(far(), 0) {
			for _, change := range []func(v *api.View){
				func(v *api.View) { v.Members[at].Inc = n }, func(v *api.View) { v.Members[at].Cid = n },
				func(v *api.View) { v.ID.Epoch = n },
				func(v *api.View) { v.ID.Inc = n }, func(v *api.View) { v.ID.Cid = n },
			} {
				v := good()
				change(&v)
				refused(t, first, install(v), api.ErrNote)
				refused(t, later, install(v), api.ErrNote)
			}
		}
		for _, n := range append(far(), 0, 1, 2, 3, 16) {
			v := good()
			if v.Members[at].Pid = n; n != at {
				refused(t, first, install(v), api.ErrNote)
			}
			v = good()
			if v.ID.Lead = n; n != 0 {
				refused(t, first, install(v), api.ErrNote)
			}
		}
	}
	for _, v := range []api.View{
		{}, {ID: good().ID}, view(5, good().Members[0], good().Members[2]), view(5, api.Member{Pid: 1, Inc: 1, Cid: 6}), view(5, api.Member{Pid: 1, Inc: 3, Cid: 6}),
		view(5, good().Members[1], good().Members[0]), view(5, good().Members[1], good().Members[1]), view(5, append(good().Members, api.Member{Pid: 3, Inc: 1, Cid: 1})...),
		view(5, append(good().Members, good().Members...)...),
	} {
		refused(t, first, install(v), api.ErrNote)
		refused(t, later, install(v), api.ErrNote)
	}
	for _, epoch := range []int{1, 3, 4} {
		v := good()
		v.ID.Epoch = epoch
		refused(t, later, install(v), api.ErrNote)
	}
	taken(t, first, install(good()))
	taken(t, later, install(good()))
	quiet(later)
	refused(t, later, install(good()), api.ErrNote)
	v := good()
	v.ID.Epoch = api.MaxCount
	taken(t, later, install(v))
	quiet(later)
	refused(t, later, install(v), api.ErrNote)
}

// TestQuorate: R3, which views are joined: those with most of the votes, or half of them with the first voter.
func TestQuorate(t *testing.T) {
	for _, c := range []struct {
		votes []int
		self  int
		pids  []int
		want  int
	}{
		{[]int{1, 1, 1}, 0, []int{0}, api.ModeIdle}, {[]int{1, 1, 1}, 0, []int{0, 2}, api.ModeJoining}, {[]int{1, 1, 1}, 2, []int{1, 2}, api.ModeJoining},
		{[]int{1, 1, 1, 1}, 1, []int{0, 1}, api.ModeJoining}, {[]int{1, 1, 1, 1}, 2, []int{2, 3}, api.ModeIdle}, {[]int{1, 1, 1, 1}, 2, []int{1, 2, 3}, api.ModeJoining},
		{[]int{0, 2, 2}, 1, []int{1}, api.ModeJoining}, {[]int{0, 2, 2}, 2, []int{0, 2}, api.ModeIdle}, {[]int{0, 0, 5}, 0, []int{0, 1}, api.ModeIdle}, {[]int{0, 0, 5}, 0, []int{0, 2}, api.ModeJoining},
		{[]int{9}, 0, []int{0}, api.ModeJoining},
	} {
		x := config(len(c.votes))
		x.Votes = c.votes
		r := made(t, x, c.self, 1)
		taken(t, r, install(viewOf(7, c.pids...)))
		if c.want == api.ModeIdle {
			wantStatus(t, r, api.Status{})
			wantRecords(t, r)
			wantNext(t, r, nil)
			continue
		}
		wantStatus(t, r, api.Status{Mode: api.ModeJoining, Promise: 7})
		wantRecords(t, r, recPromise(7))
		wantNext(t, r, stateBlob(state(0, 0)))
		wantMarks(t, r)
	}
}

// TestInstallForgets: R3, a new view knows nothing of the old one's positions, states and switch; the log stays.
func TestInstallForgets(t *testing.T) {
	l := many(3)
	r := joining(t, config(3), 0, viewOf(2, 0, 1))
	taken(t, r, deliver(1, 9, stateBlob(state(1, 0, l[0]))), install(viewOf(3, 0, 1)))
	wantStatus(t, r, api.Status{Mode: api.ModeJoining, Promise: 3})
	taken(t, r, deliver(0, 1, stateBlob(state(0, 0)))) // the position and the states begin anew
	wantStatus(t, r, api.Status{Mode: api.ModeJoining, Promise: 3})
	taken(t, r, deliver(1, 2, stateBlob(state(1, 0, l[0]))))
	wantStatus(t, r, api.Status{Mode: api.ModeAdopted, Promise: 3, Epoch: 3, Length: 1})
	taken(t, r, deliver(1, 5, commandBlob(0, set(1, 1, 4, "a", "b"))))
	quiet(r)
	taken(t, r, install(viewOf(4, 0, 1))) // joining again, with the tail that was there
	wantStatus(t, r, api.Status{Mode: api.ModeJoining, Promise: 4, Epoch: 3, Length: 2})
	wantRecords(t, r, recPromise(4))
	taken(t, r, safe(9)) // nothing of an old view is done here
	wantStatus(t, r, api.Status{Mode: api.ModeJoining, Promise: 4, Epoch: 3, Length: 2})
	taken(t, r, install(viewOf(5, 0))) // alone: idle
	wantStatus(t, r, api.Status{Promise: 4, Epoch: 3, Length: 2})
	wantNext(t, r, nil)
	taken(t, r, safe(9))
	wantStatus(t, r, api.Status{Promise: 4, Epoch: 3, Length: 2})
	wantRecords(t, r)
	wantMarks(t, r)
	wantLog(t, r, l[0], set(1, 1, 4, "a", "b"))
}

// TestDeliverRefused: R3, point 1: no view, no member, no position, idle. It comes ahead of the body's errors.
func TestDeliverRefused(t *testing.T) {
	none, idle := made(t, config(3), 0, 1), made(t, config(3), 0, 1)
	taken(t, idle, install(viewOf(2, 0)))
	r := adopted(t, config(3), 0, viewOf(2, 0, 2), state(0, 0))
	j := joining(t, config(3), 0, viewOf(2, 0, 2))
	taken(t, j, deliver(2, 2, stateBlob(state(0, 0))))
	for _, b := range [][]byte{nil, {1}, stateBlob(state(0, 0)), commandBlob(0, set(0, 1, 1, "a", "x")), commandBlob(0, set(1, 1, 1, "a", "x"))} {
		refused(t, none, deliver(0, 1, b), api.ErrNote)
		refused(t, idle, deliver(0, 1, b), api.ErrNote)
		for _, sender := range append(far(), 1, 3, 16) {
			refused(t, r, deliver(sender, 3, b), api.ErrNote)
			refused(t, j, deliver(sender, 3, b), api.ErrNote)
		}
		for _, pos := range append(far(), 0, 1, 2) {
			refused(t, r, deliver(0, pos, b), api.ErrNote)
			refused(t, j, deliver(0, pos, b), api.ErrNote)
		}
	}
	taken(t, r, deliver(0, api.MaxCount-1, commandBlob(0, set(0, 1, 1, "a", "x"))), deliver(2, api.MaxCount, commandBlob(0, set(2, 1, 1, "a", "x"))))
	quiet(r)
	refused(t, r, deliver(0, api.MaxCount, commandBlob(0, set(0, 1, 2, "a", "x"))), api.ErrNote)
	refused(t, r, deliver(0, 1, commandBlob(0, set(0, 1, 2, "a", "x"))), api.ErrNote)
	taken(t, j, deliver(0, 3, stateBlob(state(0, 0)))) // positions may be left out, and the next one is enough
}

// TestStateRefused: R3, point 3: behind the switch, twice, of this epoch or a later one.
func TestStateRefused(t *testing.T) {
	r := adopted(t, config(3), 0, viewOf(5, 0, 1), state(0, 0))
	for _, epoch := range []int{0, 4, 5, 6} {
		refused(t, r, deliver(1, 9, stateBlob(state(epoch, 0))), api.ErrNote)
	}
	taken(t, r, safe(2))
	refused(t, r, deliver(1, 9, stateBlob(state(0, 0))), api.ErrNote)
	j := joining(t, config(3), 0, viewOf(5, 0, 1))
	for _, epoch := range []int{5, 6, api.MaxCount} {
		refused(t, j, deliver(1, 1, stateBlob(state(epoch, 0))), api.ErrState)
	}
	taken(t, j, deliver(1, 1, stateBlob(state(4, 0))))
	for _, epoch := range []int{4, 5} {
		refused(t, j, deliver(1, 2, stateBlob(state(epoch, 0))), api.ErrNote) // that it is here comes first
	}
	refused(t, j, deliver(0, 2, stateBlob(state(5, 0))), api.ErrState)
	taken(t, j, deliver(0, 2, stateBlob(state(0, 0))))
	wantStatus(t, j, api.Status{Mode: api.ModeAdopted, Promise: 5, Epoch: 5})
}

// TestCommandRefused: R3, point 4, each error and their order.
func TestCommandRefused(t *testing.T) {
	v := view(5, api.Member{Pid: 0, Inc: 1, Cid: 1}, api.Member{Pid: 1, Inc: 7, Cid: 1})
	j := joining(t, config(3), 0, v)
	c := set(1, 7, 1, "a", "x")
	refused(t, j, deliver(1, 1, commandBlob(0, c)), api.ErrNote)
	refused(t, j, deliver(1, 1, commandBlob(9, set(2, 2, 2, "a", "x"))), api.ErrNote)
	r := adopted(t, config(3), 0, v, state(0, 0, many(15)...))
	for _, x := range []api.Command{set(0, 7, 1, "a", "x"), set(0, 1, 1, "a", "x"), set(2, 7, 1, "a", "x"), set(1, 6, 1, "a", "x"), set(1, 8, 1, "a", "x")} {
		refused(t, r, deliver(1, 3, commandBlob(0, x)), api.ErrState)
		refused(t, r, deliver(1, 3, commandBlob(99, x)), api.ErrState)
	}
	refused(t, r, deliver(1, 3, commandBlob(16, c)), api.ErrState)
	refused(t, r, deliver(1, 3, commandBlob(api.MaxCount, c)), api.ErrState)
	taken(t, r, deliver(1, 3, commandBlob(0, c)))
	quiet(r)
	refused(t, r, deliver(1, 4, commandBlob(0, c)), api.ErrNote) // the tail is full
	refused(t, r, deliver(1, 4, commandBlob(17, c)), api.ErrState)
	refused(t, r, deliver(1, 4, commandBlob(0, set(0, 7, 1, "a", "x"))), api.ErrState)
	taken(t, r, deliver(1, 4, commandBlob(1, c))) // not when the first of it is known safe
	wantStatus(t, r, api.Status{Mode: api.ModeAdopted, Promise: 5, Epoch: 5, Base: 1, Length: 17})
	taken(t, r, deliver(1, 5, commandBlob(17, c))) // up to the whole length
	wantStatus(t, r, api.Status{Mode: api.ModeAdopted, Promise: 5, Epoch: 5, Base: 17, Length: 18})
	taken(t, r, deliver(1, 6, commandBlob(3, c))) // what is below the base counts nothing
	wantStatus(t, r, api.Status{Mode: api.ModeAdopted, Promise: 5, Epoch: 5, Base: 17, Length: 19})
}

// TestFullTail: R3, a full tail is refused as long as its base does not rise, whatever is known below that.
func TestFullTail(t *testing.T) {
	c := set(1, 1, 1, "a", "x")
	l := many(20)
	r := adopted(t, config(3), 0, viewOf(5, 0, 1), state(0, 4, l...))
	for known := range 5 {
		refused(t, r, deliver(1, 3, commandBlob(known, c)), api.ErrNote)
	}
	taken(t, r, deliver(1, 3, commandBlob(5, c)))
	wantStatus(t, r, api.Status{Mode: api.ModeAdopted, Promise: 5, Epoch: 5, Base: 5, Length: 21})
}

// TestLastIndex: R3, behind MaxCount entries no more are taken.
func TestLastIndex(t *testing.T) {
	s := state(0, 0, many(1)...)
	s.Base = api.MaxCount - 2
	c, d := set(1, 1, 1, "y", "x"), set(1, 1, 2, "y", "y")
	r := adopted(t, config(3), 0, viewOf(5, 0, 1), s)
	taken(t, r, deliver(1, 3, commandBlob(api.MaxCount-1, c)))
	quiet(r)
	for _, known := range []int{0, api.MaxCount - 1, api.MaxCount} {
		refused(t, r, deliver(1, 4, commandBlob(known, d)), api.ErrNote)
	}
	taken(t, r, safe(3))
	wantMarks(t, r, apply(api.MaxCount, c, done))
	wantRecords(t, r, recSafe(api.MaxCount))
	refused(t, r, deliver(1, 4, commandBlob(api.MaxCount, d)), api.ErrNote)
}

// TestCommandTaken: R3 and 14.6, the order of what is done, told and written with a command.
func TestCommandTaken(t *testing.T) {
	l := many(4)
	r := adopted(t, config(3), 0, viewOf(5, 0, 1), state(0, 1, l...))
	c, d := set(1, 1, 11, "z", "x"), set(1, 1, 12, "z", "y")
	taken(t, r, deliver(1, 3, commandBlob(3, c)))
	wantMarks(t, r, apply(2, l[1], done), apply(3, l[2], done))
	wantRecords(t, r, recSafe(3), recAppend(c))
	wantLog(t, r, l[3], c)
	taken(t, r, deliver(1, 4, commandBlob(3, d)))
	wantMarks(t, r)
	wantRecords(t, r, recAppend(d))
	taken(t, r, deliver(1, 6, commandBlob(6, c)))
	wantMarks(t, r, apply(4, l[3], done), apply(5, c, done), apply(6, d, api.Result{Code: api.ResDone, Val: "x", N: 1}))
	wantRecords(t, r, recSafe(6), recAppend(c))
	taken(t, r, safe(9))
	wantMarks(t, r, apply(7, c, api.Result{Code: api.ResStale}))
	wantRecords(t, r, recSafe(7))
}

// TestSafe: R3, what is done when a position is safe.
func TestSafe(t *testing.T) {
	l := many(2)
	none := made(t, config(3), 0, 1)
	for _, pos := range append(far(), 0, 1) {
		refused(t, none, safe(pos), api.ErrNote)
	}
	r := joining(t, config(3), 0, viewOf(5, 0, 1))
	taken(t, r, safe(api.MaxCount)) // nothing yet
	wantStatus(t, r, api.Status{Mode: api.ModeJoining, Promise: 5})
	taken(t, r, deliver(0, 4, stateBlob(state(0, 0, l...))), deliver(1, 7, stateBlob(state(0, 0))))
	quiet(r)
	for _, pos := range append(far(), 0) {
		refused(t, r, safe(pos), api.ErrNote)
	}
	c, d := set(0, 1, 1, "z", "x"), set(1, 1, 2, "y", "y")
	taken(t, r, deliver(0, 9, commandBlob(0, c)), deliver(1, 12, commandBlob(0, d)))
	wantRecords(t, r, recAppend(c), recAppend(d))
	for _, pos := range []int{1, 4, 6} {
		taken(t, r, safe(pos))
		wantStatus(t, r, api.Status{Mode: api.ModeAdopted, Promise: 5, Epoch: 5, Length: 4})
	}
	taken(t, r, safe(7)) // the switch
	wantStatus(t, r, api.Status{Mode: api.ModeActive, Promise: 5, Epoch: 5, Base: 2, Length: 4})
	wantMarks(t, r, apply(1, l[0], done), apply(2, l[1], done))
	wantRecords(t, r, recSafe(2))
	for _, pos := range []int{8, 7, 1} {
		taken(t, r, safe(pos))
		wantStatus(t, r, api.Status{Mode: api.ModeActive, Promise: 5, Epoch: 5, Base: 2, Length: 4})
	}
	wantRecords(t, r)
	taken(t, r, safe(11))
	wantMarks(t, r, apply(3, c, done))
	wantRecords(t, r, recSafe(3))
	taken(t, r, safe(12), safe(12), safe(api.MaxCount))
	wantMarks(t, r, apply(4, d, done))
	wantRecords(t, r, recSafe(4))
	taken(t, r, deliver(1, 13, commandBlob(4, set(1, 1, 3, "z", "x")))) // a position that was told safe ahead of it is so when it is told again
	wantStatus(t, r, api.Status{Mode: api.ModeActive, Promise: 5, Epoch: 5, Base: 4, Length: 5})
}

// TestSafeAtOnce: R3, one note that passes the switch and what stands behind it: all is done, and written once.
func TestSafeAtOnce(t *testing.T) {
	l := many(3)
	r := adopted(t, config(3), 0, viewOf(5, 0, 1), state(0, 0, l...))
	c := set(1, 1, 1, "z", "x")
	taken(t, r, deliver(1, 3, commandBlob(1, c)))
	quiet(r)
	taken(t, r, safe(3))
	wantStatus(t, r, api.Status{Mode: api.ModeActive, Promise: 5, Epoch: 5, Base: 4, Length: 4})
	wantMarks(t, r, apply(2, l[1], done), apply(3, l[2], done), apply(4, c, done))
	wantRecords(t, r, recSafe(4))
}

// TestBlockAndOthers: R3, a block changes nothing; no other kind is taken; fields that are not named are not looked at.
func TestBlockAndOthers(t *testing.T) {
	for _, r := range each(t) {
		quiet(r)
		before := faceOf(r)
		taken(t, r, api.Note{Kind: api.NoteBlock}, api.Note{Kind: api.NoteBlock, View: viewOf(99, 0), Sender: -1, Pos: -5, Body: []byte{1}, Trans: []int{9}, Lost: -1, Seq: -1})
		wantFace(t, "R3: behind a block", faceOf(r), before)
		for _, kind := range append(far(), 0, 6, 7, 256+1, 1<<32+3) {
			refused(t, r, api.Note{Kind: kind, View: viewOf(99, 0, 1), Pos: 50, Body: stateBlob(state(0, 0))}, api.ErrNote)
		}
	}
	r := made(t, config(3), 0, 1)
	n := install(viewOf(2, 0, 1))
	n.Sender, n.Pos, n.Body, n.Trans, n.Lost, n.Seq = -1, -1, []byte{9}, []int{-3}, -1, -1
	taken(t, r, n)
	n = deliver(0, 1, stateBlob(state(0, 0)))
	n.Seq, n.View, n.Trans, n.Lost = -1, viewOf(7, 2), []int{-3}, -1
	taken(t, r, n, deliver(1, 2, stateBlob(state(0, 0))))
	n = safe(2)
	n.Seq, n.View, n.Sender, n.Body = -1, viewOf(7, 2), -1, []byte{9}
	taken(t, r, n)
	wantStatus(t, r, api.Status{Mode: api.ModeActive, Promise: 2, Epoch: 2})
}

// TestHalt: R3, from a halt on nothing is taken, in whatever mode it comes; what there is can be told and taken out still.
func TestHalt(t *testing.T) {
	for _, r := range each(t) {
		before := faceOf(r)
		n := api.Note{Kind: api.NoteHalt, View: viewOf(99, 0), Sender: -1, Pos: -5}
		taken(t, r, n)
		after := before
		after.status.Mode, after.next, after.hasNext = api.ModeIdle, nil, false
		wantFace(t, "R3: behind a halt", faceOf(r), after)
		quiet(r)
		for _, n := range []api.Note{n, {Kind: api.NoteBlock}, {}, install(viewOf(99, 0, 1)), deliver(0, 50, stateBlob(state(0, 0))), deliver(0, 50, nil), safe(50), safe(0), {Kind: 77}} {
			refused(t, r, n, api.ErrHalted)
		}
		for _, c := range []api.Command{{}, set(0, 1, 1, "a", "x")} {
			wantSubmit(t, r, c, 0, api.ErrHalted)
		}
		r.Sent()
		wantFace(t, "R7: Sent behind a halt", faceOf(r), after)
	}
	r := adopted(t, config(3), 0, viewOf(5, 0, 1), state(0, 0, many(1)...))
	taken(t, r, safe(2), api.Note{Kind: api.NoteHalt})
	wantMarks(t, r, apply(1, many(1)[0], done))
	wantRecords(t, r, recSafe(1))
}

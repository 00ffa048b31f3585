package replica_test

import (
	"bytes"
	"math/rand"
	"testing"

	"quorate/api"
	"quorate/replica"
)

// switched is node 0 of as many nodes as there are states, behind the switch; the states come by falling node.
func switched(t *testing.T, states ...api.State) *replica.Replica {
	t.Helper()
	var pids []int
	for p := range states {
		pids = append(pids, p)
	}
	r := joining(t, config(len(states)), 0, viewOf(50, pids...))
	for i := range states {
		p := len(states) - 1 - i
		taken(t, r, deliver(p, 10+i, stateBlob(states[p])))
	}
	return r
}

// TestSwitch: R4, which log is adopted: the best one's entries, the furthest one's base and machine.
func TestSwitch(t *testing.T) {
	l := many(20)
	o := []api.Command{set(9, 9, 1, "o", "1"), set(9, 9, 2, "o", "2"), set(9, 9, 3, "o", "3")}
	for _, c := range []struct {
		what   string
		states []api.State
		base   int
		tail   []api.Command
		done   []api.Command // on the machine
	}{
		{"the greatest epoch, though it is shorter", []api.State{state(1, 0, o...), state(2, 0, l[0])}, 0, l[:1], nil},
		{"the greatest epoch, whoever has it", []api.State{state(2, 0, l[0]), state(1, 0, o...)}, 0, l[:1], nil},
		{"of one epoch the longest", []api.State{state(2, 0, o[:1]...), state(2, 0, l[:3]...), state(2, 0, o[:2]...)}, 0, l[:3], nil},
		{"the length counts, not the tail's", []api.State{state(2, 0, o[:2]...), state(2, 3, l[:4]...)}, 3, l[3:4], l[:3]},
		{"of one epoch and length the lowest node", []api.State{state(2, 0, l[:2]...), state(2, 0, o[:2]...)}, 0, l[:2], nil},
		{"the furthest's base and machine", []api.State{state(2, 1, l[:6]...), state(1, 4, l[:5]...)}, 4, l[4:6], l[:4]},
		{"the base is the best's whole length", []api.State{state(2, 1, l[:4]...), state(1, 4, l[:5]...)}, 4, nil, l[:4]},
		{"the base is beyond the best's length", []api.State{state(2, 0, l[:2]...), state(1, 7, l[:9]...)}, 7, nil, l[:7]},
		{"no entries at all", []api.State{state(2, 0), state(0, 0), state(1, 0)}, 0, nil, nil},
		{"sixteen entries", []api.State{state(3, 0, l[:16]...), state(3, 0, l[:15]...)}, 0, l[:16], nil},
		{"all are alike", []api.State{state(3, 2, l[:4]...), state(3, 2, l[:4]...), state(3, 2, l[:4]...)}, 2, l[2:4], l[:2]},
	} {
		r := switched(t, c.states...)
		length := c.base + len(c.tail)
		wantStatus(t, r, api.Status{Mode: api.ModeAdopted, Promise: 50, Epoch: 50, Base: c.base, Length: length})
		wantLog(t, r, c.tail...)
		if !bytes.Equal(r.Snapshot(), shot(c.done...)) {
			t.Errorf("R4: %s: the machine is another", c.what)
		}
		wantMarks(t, r, adopt(api.ViewID{Epoch: 50, Lead: 0, Inc: 1, Cid: 1}, length, c.base))
		wantRecords(t, r, recState(50, api.State{Epoch: 50, Base: c.base, Snapshot: shot(c.done...), Tail: c.tail}))
		pos := 10 + len(c.states) - 1
		taken(t, r, safe(pos-1))
		wantStatus(t, r, api.Status{Mode: api.ModeAdopted, Promise: 50, Epoch: 50, Base: c.base, Length: length})
		taken(t, r, safe(pos)) // what was adopted is safe with the switch, and with nothing ahead of it
		wantStatus(t, r, api.Status{Mode: api.ModeActive, Promise: 50, Epoch: 50, Base: length, Length: length})
	}
}

// TestFurthest: R4, of two states with the same base the lowest node's machine is taken.
func TestFurthest(t *testing.T) {
	a, b := state(1, 1, set(1, 1, 1, "a", "x")), state(2, 1, set(1, 1, 1, "b", "x"))
	r := switched(t, state(3, 0), a, b)
	if !bytes.Equal(r.Snapshot(), a.Snapshot) {
		t.Error("R4: not the lowest node's machine")
	}
	r = switched(t, state(3, 0), b, a)
	if !bytes.Equal(r.Snapshot(), b.Snapshot) {
		t.Error("R4: not the lowest node's machine")
	}
}

// TestSwitchAlike: R4, all members come to one log, in whatever order the states are delivered; the old log counts as the state that was told of it.
func TestSwitchAlike(t *testing.T) {
	r := rand.New(rand.NewSource(4))
	l := many(60)
	for range 300 {
		nodes := 1 + r.Intn(6)
		var states []api.State
		var pids []int
		for p := range nodes {
			base := r.Intn(4)
			s := state(r.Intn(3), base, l[:base+r.Intn(5)]...)
			states, pids = append(states, s), append(pids, p)
		}
		var first face
		for self := range nodes {
			x := joining(t, config(nodes), self, viewOf(9, pids...), recPromise(3), recState(3, state(3, 1, l[40:50]...)))
			for i, p := range r.Perm(nodes) {
				wantStatus(t, x, api.Status{Mode: api.ModeJoining, Promise: 9, Epoch: 3, Base: 1, Length: 10})
				wantRecords(t, x)
				taken(t, x, deliver(p, i+1, stateBlob(states[p])))
			}
			f := faceOf(x)
			if self == 0 {
				first = f
			}
			wantFace(t, "R4: another member", f, first)
		}
	}
}

// TestAnsweredAtTheSwitch: R4, by the session of self: of this incarnation and this request alone.
func TestAnsweredAtTheSwitch(t *testing.T) {
	mine := set(0, 1, 1, "a", "x")
	was := api.Result{Code: api.ResDone, Val: "v", N: 1}
	for _, c := range []struct {
		what     string
		did      []api.Command
		answered bool
	}{
		{"the very request", []api.Command{set(3, 1, 1, "a", "v"), mine}, true},
		{"no session", []api.Command{set(3, 1, 1, "a", "v")}, false},
		{"another incarnation", []api.Command{set(3, 1, 1, "a", "v"), set(0, 2, 1, "a", "x")}, false},
		{"another request", []api.Command{set(3, 1, 1, "a", "v"), set(0, 1, 2, "a", "x")}, false},
		{"another client", []api.Command{set(3, 1, 1, "a", "v"), set(1, 1, 1, "a", "x")}, false},
	} {
		r := active(t, config(3), 0, viewOf(5, 0, 1), state(0, 0))
		wantSubmit(t, r, mine, 1, api.OK)
		r.Sent()
		taken(t, r, install(viewOf(6, 0, 1)))
		r.Sent()
		taken(t, r, deliver(0, 1, stateBlob(state(5, 0))), deliver(1, 2, stateBlob(state(5, len(c.did), c.did...))))
		id := viewOf(6, 0, 1).ID
		if !c.answered {
			wantMarks(t, r, adopt(id, len(c.did), len(c.did)))
			taken(t, r, safe(2))
			wantNext(t, r, commandBlob(len(c.did), mine)) // it is sent again
			continue
		}
		wantMarks(t, r, adopt(id, len(c.did), len(c.did)), reply(mine, was))
		taken(t, r, safe(2))
		wantNext(t, r, nil)
		wantSubmit(t, r, mine, 2, api.OK)
	}
	r := made(t, config(3), 0, 1) // with nothing pending nothing is answered
	taken(t, r, install(viewOf(6, 0, 1)), deliver(0, 1, stateBlob(state(0, 0))), deliver(1, 2, stateBlob(state(5, 1, mine))))
	wantMarks(t, r, adopt(viewOf(6, 0, 1).ID, 1, 1))
}

// TestReplyIsTheEntry: 14.6, what is answered is the entry as it was done, told behind its MarkApply.
func TestReplyIsTheEntry(t *testing.T) {
	r := active(t, config(3), 0, viewOf(5, 0, 1), state(0, 0))
	wantSubmit(t, r, set(0, 0, 0, "a", "x"), 1, api.OK)
	other := cmd(0, 1, 1, api.OpLock, "L")
	near := []api.Command{set(1, 1, 1, "b", "x"), set(0, 1, 7, "c", "x")}
	taken(t, r, deliver(1, 3, commandBlob(0, near[0])), deliver(0, 4, commandBlob(0, other)), deliver(0, 5, commandBlob(0, near[1])))
	quiet(r)
	taken(t, r, safe(5))
	wantMarks(t, r, apply(1, near[0], done), apply(2, other, api.Result{Code: api.ResDone, N: 1}), reply(other, api.Result{Code: api.ResDone, N: 1}), apply(3, near[1], done))
	wantStatus(t, r, api.Status{Mode: api.ModeActive, Promise: 5, Epoch: 5, Base: 3, Length: 3})
}

// TestReplyByACommand: 14.6, an entry that a command knows safe is answered too.
func TestReplyByACommand(t *testing.T) {
	r := active(t, config(3), 0, viewOf(5, 0, 1), state(0, 0))
	mine, its := set(0, 1, 1, "a", "x"), set(1, 1, 1, "a", "y")
	wantSubmit(t, r, mine, 1, api.OK)
	r.Sent()
	taken(t, r, deliver(0, 3, commandBlob(0, mine)), deliver(1, 4, commandBlob(1, its)))
	wantMarks(t, r, apply(1, mine, done), reply(mine, done))
	wantRecords(t, r, recAppend(mine), recSafe(1), recAppend(its))
	wantSubmit(t, r, mine, 2, api.OK)
}

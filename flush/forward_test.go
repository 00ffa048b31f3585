package flush_test

import (
	"strings"
	"testing"

	"quorate/api"
	"quorate/flush"
)

// numbered are the messages of a sender from one number to another.
func numbered(sender, from, to int) []api.Data {
	var l []api.Data
	for seq := from; seq <= to; seq++ {
		l = append(l, message(sender, seq, 0, "m"))
	}
	return l
}

// TestBegin: what is kept is of one view alone; the contents stay.
func TestBegin(t *testing.T) {
	a, b, _ := contents()
	x := message(1, 1, 0, "x")
	other := api.ViewID{Epoch: 3, Lead: 0, Inc: 1, Cid: 3}
	s := atWork(t)
	s.Begin(other)
	wantMessages(t, s)
	wantAdd(t, s, forward(x), api.ErrPrev)
	wantAdd(t, s, api.Forward{Prev: other, Msgs: []api.Data{message(1, 1, 5, "another")}}, api.OK)
	wantMessages(t, s, message(1, 1, 5, "another"))
	s.Begin(viewID)
	wantMessages(t, s)
	wantAdd(t, s, api.Forward{Prev: other, Msgs: []api.Data{x}}, api.ErrPrev)
	wantAdd(t, s, forward(x), api.OK)
	s.Begin(viewID)
	wantMessages(t, s)
	wantAdd(t, s, forward(message(1, 1, 0, "z")), api.OK)
	wantContents(t, s, viewID, []api.Member{member(0, 1), member(2, 4)}, a, b)
	for _, id := range badIDs() {
		s.Begin(id)
		wantMessages(t, s)
		wantAdd(t, s, api.Forward{Prev: id}, api.ErrArg)
		wantAdd(t, s, forward(), api.ErrPrev)
	}
}

// TestAddRefuses: what cannot be a list of forwarded messages, whichever view it is of.
func TestAddRefuses(t *testing.T) {
	x, y := message(0, 4, 2, "y"), message(2, 1, 0, "z")
	other := api.ViewID{Epoch: 9, Lead: 1, Inc: 1, Cid: 1}
	var bad [][]api.Data
	for _, change := range []func(d *api.Data, n int){
		func(d *api.Data, n int) { d.Sender = n },
		func(d *api.Data, n int) { d.Seq = n },
		func(d *api.Data, n int) { d.Stable = n },
	} {
		for _, n := range far() {
			d := message(1, 5, 0, "w")
			change(&d, n)
			bad = append(bad, []api.Data{d}, []api.Data{x, d}, []api.Data{d, y}, []api.Data{x, d, y})
		}
	}
	bad = append(bad,
		[]api.Data{message(3, 1, 0, "")}, []api.Data{message(1, 0, 0, "")},
		[]api.Data{x, message(1, 1, 0, strings.Repeat("b", api.MaxChunk+1))},
		[]api.Data{y, x}, []api.Data{x, x}, []api.Data{message(1, 3, 0, ""), message(1, 2, 0, "")},
		[]api.Data{message(1, 3, 0, ""), message(1, 3, 0, "")}, []api.Data{x, y, message(1, 7, 0, "")},
		numbered(1, 1, api.MaxHeld+1))
	wantUnchanged(t, "F13: a refused forward", func(s *flush.Store) {
		for _, l := range bad {
			wantAdd(t, s, forward(l...), api.ErrArg)
			wantAdd(t, s, api.Forward{Prev: other, Msgs: l}, api.ErrArg)
		}
		for _, id := range badIDs() {
			wantAdd(t, s, api.Forward{Prev: id, Msgs: []api.Data{x}}, api.ErrArg)
		}
		wantAdd(t, s, api.Forward{Prev: other, Msgs: []api.Data{x}}, api.ErrPrev)
		wantAdd(t, s, api.Forward{Prev: other, Msgs: []api.Data{message(0, 4, 2, "another")}}, api.ErrPrev)
		wantAdd(t, s, api.Forward{Prev: other, Msgs: numbered(1, 1, api.MaxHeld)}, api.ErrPrev)
	})
}

// TestAddEdges: what just can be.
func TestAddEdges(t *testing.T) {
	long := message(0, 1, api.MaxCount, strings.Repeat("b", api.MaxChunk))
	great, last := message(0, api.MaxCount, 0, ""), message(2, 1, 0, "z")
	s := made(t, 3)
	s.Begin(viewID)
	wantAdd(t, s, forward(long, great, last), api.OK)
	wantMessages(t, s, long, great, last)
	wantAdd(t, s, forward(long, great, last), api.OK)
	wantMessages(t, s, long, great, last)

	id := api.ViewID{Epoch: api.MaxCount, Lead: api.MaxNodes - 1, Inc: api.MaxCount, Cid: api.MaxCount}
	s.Begin(id)
	wantAdd(t, s, api.Forward{Prev: id, Msgs: []api.Data{last}}, api.OK)
	wantMessages(t, s, last)
}

// TestAddForks: one message is one thing, and a list is kept whole or not at all.
func TestAddForks(t *testing.T) {
	wantForked := func(l ...api.Data) {
		t.Helper()
		s := atWork(t)
		wantAdd(t, s, forward(l...), api.ErrFork)
		wantSame(t, "F13: a forward that contradicts", s, atWork(t))
	}
	wantForked(message(1, 1, 1, "x"))
	wantForked(message(1, 1, 0, "y"))
	wantForked(message(1, 1, 0, ""))
	wantForked(message(1, 1, 0, "xx"))
	wantForked(message(1, 2, 3, "x"))
	wantForked(message(0, 1, 0, "new"), message(1, 1, 0, "y"), message(2, 1, 0, "new"))
	wantForked(message(0, 4, 2, "y"), message(1, 1, 0, "x"), message(1, 2, 2, ""))
	wantForked(message(0, 4, 3, "y"), message(1, 1, 0, "x"), message(1, 2, 3, ""))
	wantForked(append(numbered(0, 5, api.MaxHeld+3), message(1, 1, 0, "y"))...)
}

// TestAddFull: MaxHeld are kept in all, each counted once.
func TestAddFull(t *testing.T) {
	s := made(t, 3)
	s.Begin(viewID)
	wantAdd(t, s, forward(numbered(1, 1, api.MaxHeld)...), api.OK)
	wantAdd(t, s, forward(numbered(1, 1, api.MaxHeld)...), api.OK)
	wantAdd(t, s, forward(numbered(0, 1, 1)...), api.ErrFull)
	wantAdd(t, s, forward(append(numbered(1, 3, 9), numbered(2, 1, 1)...)...), api.ErrFull)
	wantAdd(t, s, forward(append(numbered(0, 1, 1), message(1, 1, 0, "other"))...), api.ErrFork)
	wantAdd(t, s, forward(), api.OK)
	wantMessages(t, s, numbered(1, 1, api.MaxHeld)...)

	s.Begin(viewID)
	wantAdd(t, s, forward(numbered(1, 1, 100)...), api.OK)
	wantAdd(t, s, forward(numbered(1, 50, 129)...), api.ErrFull)
	wantMessages(t, s, numbered(1, 1, 100)...)
	wantAdd(t, s, forward(numbered(1, 50, 127)...), api.OK)
	wantAdd(t, s, forward(numbered(0, 1, 2)...), api.ErrFull)
	wantAdd(t, s, forward(numbered(0, 1, 1)...), api.OK)
	wantMessages(t, s, append(numbered(0, 1, 1), numbered(1, 1, 127)...)...)
}

// TestMessages: by sender, then by number, however they came.
func TestMessages(t *testing.T) {
	s := made(t, 3)
	s.Begin(viewID)
	a, b, c, d := message(0, 9, 0, "a"), message(1, 2, 0, "b"), message(1, 10, 4, ""), message(2, 1, 0, "d")
	for _, x := range []api.Data{c, a, d, b} {
		wantAdd(t, s, forward(x), api.OK)
	}
	wantMessages(t, s, a, b, c, d)
	wantMessages(t, s, a, b, c, d)
}

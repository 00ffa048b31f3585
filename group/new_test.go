package group_test

import (
	"testing"

	"quorate/api"
	"quorate/group"
)

func wantRefused(t *testing.T, c api.Config, self, inc int, want api.Errno) {
	t.Helper()
	if g, e := group.New(c, self, inc); g != nil || e != want {
		t.Errorf("G1: New(%+v, %d, %d) = %v, error %d, want none, error %d", c, self, inc, g, e, want)
	}
}

// numbered: each number of a configuration, with its ends (Base's and Step's highest is Cap).
func numbered(c *api.Config) []struct {
	n         *int
	low, high int
} {
	return []struct {
		n         *int
		low, high int
	}{
		{&c.Nodes, 1, api.MaxNodes}, {&c.Window, 1, api.MaxWindow}, {&c.Cap, 1, api.MaxCap}, {&c.Base, 1, c.Cap}, {&c.Step, 1, c.Cap},
		{&c.Room, 1, api.MaxRoom}, {&c.Floor, 0, api.MaxCount},
	}
}

func TestNewRefuses(t *testing.T) {
	good := usual(3)
	for i := range numbered(&good) {
		c := usual(3)
		x := numbered(&c)[i]
		for _, n := range append(far(), x.low-1, x.high+1) {
			if *x.n = n; n < x.low || n > x.high {
				wantRefused(t, c, 0, 1, api.ErrArg)
			}
		}
	}
	for _, votes := range [][]int{nil, {1, 1}, {1, 1, 1, 1}, {0, 0, 0}, {1, -1, 1}, {1, 1, api.MaxVotes + 1}, {-1, 1, 1}} {
		c := usual(3)
		c.Votes = votes
		wantRefused(t, c, 0, 1, api.ErrArg)
	}
	c := usual(3)
	c.Cap = 1 // below Base
	wantRefused(t, c, 0, 1, api.ErrArg)
	for _, self := range append(far(), 3) {
		wantRefused(t, usual(3), self, 1, api.ErrArg)
	}
	for _, inc := range append(far(), 0) {
		wantRefused(t, usual(3), 0, inc, api.ErrArg)
	}
}

func TestNewSpent(t *testing.T) {
	c := usual(3)
	c.Floor = api.MaxCount
	wantRefused(t, c, 0, 1, api.ErrSpent)
	wantRefused(t, c, 3, 1, api.ErrArg) // the error that is named first
	wantRefused(t, c, 0, 0, api.ErrArg)
	c.Room = 0
	wantRefused(t, c, 0, 1, api.ErrArg)
}

func TestNewEdges(t *testing.T) {
	good := config(2, 2, 1, 1, 2)
	for i := range numbered(&good) {
		if i == 0 {
			continue // Nodes: below, with votes for all of them
		}
		c := config(2, 2, 1, 1, 2)
		x := numbered(&c)[i]
		for _, n := range []int{x.low, x.high} {
			if *x.n = n; c.Floor < api.MaxCount {
				made(t, c, 1, 1)
			}
		}
	}
	for _, nodes := range []int{1, api.MaxNodes} {
		c := config(nodes, api.MaxWindow, api.MaxCap, api.MaxCap, api.MaxCap)
		c.Floor = api.MaxCount - 1
		for p := range c.Votes {
			c.Votes[p] = 0
		}
		c.Votes[nodes-1] = api.MaxVotes
		made(t, c, nodes-1, api.MaxCount)
		made(t, c, 0, 1)
	}
}

func TestFresh(t *testing.T) {
	g := made(t, usual(3), 1, 4)
	if v := g.View(); v.ID != (api.ViewID{}) || len(v.Members) != 0 {
		t.Errorf("G2: View of a fresh Group is %v", v)
	}
	wantBlocked(t, "G2: fresh", g, true)
	wantQueue(t, "G2: fresh", g, 0)
	wantNotes(t, "G1: fresh", g, "")
	if g.Halted() {
		t.Error("G2: a fresh Group has halted")
	}
	wantSend(t, "G4: fresh", g, []byte("x"), 0, api.ErrBlocked)
}

func TestFloor(t *testing.T) {
	c := usual(2)
	c.Floor = 41
	g := made(t, c, 1, 3)
	ticked(t, g)
	wantNotes(t, "G8: the first epoch is above the floor", g, "install {42 1 3 42} [{1 3 42}] trans [1] lost 0")
}

package bound_test

import (
	"math"
	"slices"
	"testing"

	"quorate/api"
	"quorate/bound"
	"quorate/script"
	"quorate/world"
)

// far are numbers that no chapter allows as a count.
func far() []int {
	return []int{math.MinInt, math.MinInt + 1, -api.MaxCount, -1 << 32, -256, -2, -1, api.MaxCount + 1, math.MaxInt - 1, math.MaxInt}
}

// config is one for so many nodes with one vote each, as in the chapter's examples.
func config(nodes int) api.Config {
	return api.Config{Nodes: nodes, Window: 8, Base: 2, Step: 1, Cap: 10, Room: 1000, Votes: slices.Repeat([]int{1}, nodes)}
}

// with is a configuration of which something was changed.
func with(c api.Config, change func(c *api.Config)) api.Config {
	c.Votes = slices.Clone(c.Votes)
	change(&c)
	return c
}

// rounds are so many rounds.
func rounds(n int) []api.Event { return slices.Repeat([]api.Event{{Kind: api.EvRound}}, n) }

// events are those of lines.
func events(nodes int, lines ...string) []api.Event {
	var l []api.Event
	for _, line := range lines {
		l = append(l, script.ParseEvent(line, nodes))
	}
	return l
}

// all are the nodes 0 to n-1.
func all(n int) []int {
	var l []int
	for p := range n {
		l = append(l, p)
	}
	return l
}

// sure is the answer of a call that must be OK.
func sure(t testing.TB, promise string) func(n int, e api.Errno) int {
	return func(n int, e api.Errno) int {
		t.Helper()
		if e != api.OK {
			t.Fatalf("%s: error %d", promise, e)
		}
		return n
	}
}

// played is the trace of a script that can be played.
func played(t testing.TB, s api.Script) []api.Mark {
	t.Helper()
	l, e := world.Play(s)
	if e != api.OK {
		t.Fatalf("P16.1: Play: error %d", e)
	}
	return l
}

// wantPremise: from when on a set is left alone in a script, with which delay.
func wantPremise(t testing.TB, what string, s api.Script, set []int, from, delay int, want api.Errno) {
	t.Helper()
	n, d, e := bound.Premise(s, set)
	if n != from || d != delay || e != want {
		t.Errorf("P18.5: %s: %d, %d, error %d, want %d, %d, error %d", what, n, d, e, from, delay, want)
	}
}

package world_test

import (
	"bytes"
	"math"
	"slices"
	"strings"
	"testing"

	"quorate/api"
	"quorate/script"
	"quorate/world"
)

// The first lines of the chapter's scripts.
const (
	one = "quorate 1\nnodes 1 window 4 base 2 step 1 cap 8 room 100 floor 0\nvotes 1\n"
	two = "quorate 1\nnodes 2 window 2 base 2 step 1 cap 8 room 100 floor 0\nvotes 0 1\n"
)

// head is a trace's first line.
const head = "quorate trace 1\n"

// far are numbers that no chapter allows as a count.
func far() []int {
	return []int{math.MinInt, math.MinInt + 1, -api.MaxCount, -1 << 32, -256, -2, -1, api.MaxCount + 1, math.MaxInt - 1, math.MaxInt}
}

// config is one for so many nodes with one vote each.
func config(nodes int) api.Config {
	return api.Config{Nodes: nodes, Window: 4, Base: 2, Step: 1, Cap: 8, Room: 1000, Votes: slices.Repeat([]int{1}, nodes)}
}

// with is a configuration of which something was changed.
func with(c api.Config, change func(c *api.Config)) api.Config {
	c.Votes = slices.Clone(c.Votes)
	change(&c)
	return c
}

// lines: a line each.
func lines(l ...string) string { return strings.Join(l, "\n") + "\n" }

// rounds are so many event lines.
func rounds(n int) string { return strings.Repeat("round\n", n) }

// run is the trace's text of a script's text that can be played.
func run(t testing.TB, text string) string {
	t.Helper()
	got, e := world.Run(text)
	if e != api.OK {
		t.Fatalf("P16.2: Run(%q): error %d", text, e)
	}
	return got
}

// wantRun: a script's text has this trace's text.
func wantRun(t *testing.T, promise, text, want string) {
	t.Helper()
	if got := run(t, text); got != want {
		t.Errorf("%s: Run(%q):\n%s\nwant\n%s", promise, text, got, want)
	}
}

// scriptOf is the script of a configuration and of event lines.
func scriptOf(c api.Config, text string) api.Script {
	s := api.Script{Config: c}
	for line := range strings.Lines(text) {
		s.Events = append(s.Events, script.ParseEvent(strings.TrimSuffix(line, "\n"), c.Nodes))
	}
	return s
}

// played is the trace of a script that can be played.
func played(t testing.TB, s api.Script) []api.Mark {
	t.Helper()
	l, e := world.Play(s)
	if e != api.OK {
		t.Fatalf("P16.1: Play: error %d", e)
	}
	return l
}

// changed is a script with other events.
func changed(s api.Script, events ...[]api.Event) api.Script {
	s.Events = slices.Concat(events...)
	return s
}

func sameMark(a, b api.Mark) bool {
	return a.At == b.At && a.Kind == b.Kind && a.Node == b.Node && a.Inc == b.Inc && a.ID == b.ID && slices.Equal(a.Members, b.Members) &&
		slices.Equal(a.Trans, b.Trans) && a.Sender == b.Sender && a.Seq == b.Seq && a.Pos == b.Pos && a.N == b.N && bytes.Equal(a.Body, b.Body) &&
		a.Cmd == b.Cmd && a.Result == b.Result && a.Err == b.Err
}

// wantSame: two traces are the same.
func wantSame(t testing.TB, promise string, got, want []api.Mark) {
	t.Helper()
	for i := range min(len(got), len(want)) {
		if !sameMark(got[i], want[i]) {
			t.Fatalf("%s: mark %d is\n%+v\nwant\n%+v", promise, i, got[i], want[i])
		}
	}
	if len(got) != len(want) {
		t.Fatalf("%s: %d marks, want %d", promise, len(got), len(want))
	}
}

// renumbered is a trace with other numbers of its events.
func renumbered(l []api.Mark, number func(at int) int) []api.Mark {
	l = slices.Clone(l)
	for i := range l {
		l[i].At = number(l[i].At)
	}
	return l
}

// has tells whether a trace has a mark of this kind.
func has(l []api.Mark, kind int) bool {
	return slices.ContainsFunc(l, func(m api.Mark) bool { return m.Kind == kind })
}

// of are the marks of one kind.
func of(l []api.Mark, kind int) []api.Mark {
	return slices.DeleteFunc(slices.Clone(l), func(m api.Mark) bool { return m.Kind != kind })
}

package audit_test

import (
	"math"
	"slices"
	"strings"
	"testing"

	"quorate/api"
	"quorate/audit"
	"quorate/script"
)

// head is a trace's first line.
const head = "quorate trace 1\n"

// far are numbers that no chapter allows as a count.
func far() []int {
	return []int{math.MinInt, math.MinInt + 1, -api.MaxCount, -1 << 32, -256, -2, -1, api.MaxCount + 1, math.MaxInt - 1, math.MaxInt}
}

// lines: a line each.
func lines(l ...string) string { return strings.Join(l, "\n") + "\n" }

// marks are those of a trace's lines.
func marks(t testing.TB, text string) []api.Mark {
	t.Helper()
	l, line, e := script.ParseTrace(head + text)
	if e != api.OK {
		t.Fatalf("line %d of the test's own trace: error %d: %s", line, e, text)
	}
	return l
}

// mark is that of one line.
func mark(t testing.TB, line string) api.Mark {
	t.Helper()
	return marks(t, line+"\n")[0]
}

// with is a mark of which something was changed.
func with(m api.Mark, change func(m *api.Mark)) api.Mark {
	m.Members, m.Trans, m.Body = slices.Clone(m.Members), slices.Clone(m.Trans), slices.Clone(m.Body)
	change(&m)
	return m
}

// behind is a trace with more marks behind it.
func behind(l []api.Mark, more ...api.Mark) []api.Mark { return slices.Concat(l, more) }

// wantGroup: a trace that keeps all rules, and behind it a mark that breaks this one (0: none).
func wantGroup(t *testing.T, rule int, past []api.Mark, m api.Mark) {
	t.Helper()
	if v := audit.Group(past); v != (api.Verdict{}) {
		t.Fatalf("P17.1: mark %d of the test's own trace breaks rule %d: %+v", v.At, v.Rule, past[v.At])
	}
	want := api.Verdict{}
	if rule != 0 {
		want = api.Verdict{Rule: rule, At: len(past)}
	}
	if v := audit.Group(behind(past, m)); v != want {
		t.Errorf("rule %d: %v, want %v: %+v", rule, v, want, m)
	}
}

// wantLines: behind a trace, each of these lines breaks this rule of the group.
func wantLines(t *testing.T, rule int, past []api.Mark, text ...string) {
	t.Helper()
	for _, line := range text {
		wantGroup(t, rule, past, mark(t, line))
	}
}

// wantService: a trace that keeps all rules of the service, and behind it a mark that breaks this one (0: none).
func wantService(t *testing.T, rule int, votes []int, past []api.Mark, m api.Mark) {
	t.Helper()
	if v, e := audit.Service(past, votes); v != (api.Verdict{}) || e != api.OK {
		t.Fatalf("P17.2: error %d; mark %d of the test's own trace breaks rule %d: %+v", e, v.At, v.Rule, past[v.At])
	}
	want := api.Verdict{}
	if rule != 0 {
		want = api.Verdict{Rule: rule, At: len(past)}
	}
	if v, e := audit.Service(behind(past, m), votes); v != want || e != api.OK {
		t.Errorf("rule %d: %v, error %d, want %v: %+v", rule, v, e, want, m)
	}
}

// wantAnswers: behind a trace, each of these lines breaks this rule of the service.
func wantAnswers(t *testing.T, rule int, votes []int, past []api.Mark, text ...string) {
	t.Helper()
	for _, line := range text {
		wantService(t, rule, votes, past, mark(t, line))
	}
}

// pair: two nodes, each alone at first, in the view 2/0/1/2 then.
const pair = `0 boot 0 1
0 boot 1 1
1 install 0 1 id=1/0/1/1 members=0/1/1 trans=0
1 install 1 1 id=1/1/1/1 members=1/1/1 trans=1
3 block 0 1 id=1/0/1/1
3 block 1 1 id=1/1/1/1
5 install 1 1 id=2/0/1/2 members=0/1/2,1/1/2 trans=1
5 install 0 1 id=2/0/1/2 members=0/1/2,1/1/2 trans=0
`

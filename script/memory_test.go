package script_test

import (
	"math/rand"
	"slices"
	"testing"

	"quorate/api"
	"quorate/script"
)

// copyScript is a script that shares nothing.
func copyScript(s api.Script) api.Script {
	s.Config.Votes = slices.Clone(s.Config.Votes)
	s.Events = slices.Clone(s.Events)
	for i := range s.Events {
		s.Events[i].Body = slices.Clone(s.Events[i].Body)
		s.Events[i].Sides = slices.Clone(s.Events[i].Sides)
	}
	return s
}

func copyMarks(l []api.Mark) []api.Mark {
	l = slices.Clone(l)
	for i := range l {
		l[i].Members = slices.Clone(l[i].Members)
		l[i].Trans = slices.Clone(l[i].Trans)
		l[i].Body = slices.Clone(l[i].Body)
	}
	return l
}

// TestScriptMemory: what is handed in stays as it is, and each list of an answer is its own, spare room too.
func TestScriptMemory(t *testing.T) {
	r := rand.New(rand.NewSource(6))
	for range 200 {
		given := wildScript(r)
		before := copyScript(given)
		text, _ := script.Print(given)
		if !sameScript(given, before) {
			t.Fatalf("rule 5: Print changed its argument: %v, was %v", given, before)
		}
		first, _, _ := script.Parse(text)
		second, _, _ := script.Parse(text)
		for i := range first.Events {
			e := &first.Events[i]
			scribble(e.Body, 'X')
			scribble(e.Sides, 99)
			e.Body, e.Sides = before.Events[i].Body, before.Events[i].Sides
			if !sameScript(first, before) {
				t.Fatalf("rule 5: writing into event %d of a script changed another one", i)
			}
		}
		scribble(first.Config.Votes, 99)
		scribble(first.Events, api.Event{Kind: 99})
		if !sameScript(second, before) {
			t.Fatalf("rule 5: writing into an answer of Parse changed another answer")
		}
	}
}

func TestEventMemory(t *testing.T) {
	for _, s := range samples() {
		first, second := script.ParseEvent(s.line, 3), script.ParseEvent(s.line, 3)
		scribble(first.Body, 'X')
		scribble(first.Sides, 99)
		wantEvent(t, "rule 5", s.line, 3, second, s.event)
		given := s.event
		given.Body, given.Sides = slices.Clone(given.Body), slices.Clone(given.Sides)
		script.PrintEvent(given, 3)
		if !sameEvent(given, s.event) {
			t.Errorf("rule 5: PrintEvent changed its argument: %.60s", s.line)
		}
	}
}

func TestTraceMemory(t *testing.T) {
	r := rand.New(rand.NewSource(7))
	for range 1000 {
		given := wildMarks(r)
		before := copyMarks(given)
		text, _ := script.PrintTrace(given)
		if !sameMarks(given, before) {
			t.Fatalf("rule 5: PrintTrace changed its argument")
		}
		first, _, _ := script.ParseTrace(text)
		second, _, _ := script.ParseTrace(text)
		for i := range first {
			m := &first[i]
			scribble(m.Members, api.Member{Pid: 99})
			scribble(m.Trans, 99)
			scribble(m.Body, 'X')
			m.Members, m.Trans, m.Body = before[i].Members, before[i].Trans, before[i].Body
			if !sameMarks(first, before) {
				t.Fatalf("rule 5: writing into mark %d changed another one", i)
			}
		}
		scribble(first, api.Mark{Kind: 99})
		if !sameMarks(second, before) {
			t.Fatalf("rule 5: writing into an answer of ParseTrace changed another answer")
		}
	}
}

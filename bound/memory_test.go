package bound_test

import (
	"fmt"
	"math/rand"
	"runtime"
	"slices"
	"sync"
	"testing"

	"quorate/api"
	"quorate/bound"
)

// roomy is a list with spare room, filled with something.
func roomy[T any](l []T, with T) []T {
	return append(slices.Clone(l), with, with, with)[:len(l)]
}

// roomyScript is a script all of whose lists have spare room.
func roomyScript(s api.Script) api.Script {
	s.Config.Votes = roomy(s.Config.Votes, 7)
	s.Events = roomy(s.Events, api.Event{Kind: 77})
	for i := range s.Events {
		s.Events[i].Body, s.Events[i].Sides = roomy(s.Events[i].Body, 'Y'), roomy(s.Events[i].Sides, 7)
	}
	return s
}

// allOf tells all of a script and a set, their spare room too.
func allOf(s api.Script, set []int) string {
	text := fmt.Sprint(s.Config, s.Config.Votes[:cap(s.Config.Votes)], set[:cap(set)])
	for _, e := range s.Events[:cap(s.Events)] {
		text += fmt.Sprint(e, e.Body[:cap(e.Body)], e.Sides[:cap(e.Sides)])
	}
	return text
}

// askAll is what all calls answer to a script and a set.
func askAll(s api.Script, set []int) string {
	text := fmt.Sprintln(bound.Premise(s, set))
	for _, x := range numbers() {
		text += fmt.Sprintln(x.ask(s.Config, len(set)))
	}
	return text
}

// TestChangesNothing: rule 5: what is handed in is not changed.
func TestChangesNothing(t *testing.T) {
	for seed := range int64(100) {
		s, set := drawnScript(rand.New(rand.NewSource(seed)))
		if seed%10 == 0 {
			s.Config.Window = 0
		}
		s, set = roomyScript(s), roomy(set, 7)
		given := allOf(s, set)
		askAll(s, set)
		if allOf(s, set) != given {
			t.Fatal("rule 5: what was handed in is changed")
		}
	}
}

// TestKeepsNoList: rules 5 and 6: what is done to a list behind a call is not seen in the next one's answer, nor what lists it was given before.
func TestKeepsNoList(t *testing.T) {
	s, set := drawnScript(rand.New(rand.NewSource(3)))
	want := askAll(s, set)
	for seed := range int64(50) {
		other, otherSet := drawnScript(rand.New(rand.NewSource(seed)))
		other = roomyScript(other)
		askAll(other, otherSet)
		for i := range other.Events {
			for k := range other.Events[i].Sides {
				other.Events[i].Sides[k] = 99
			}
			other.Events[i] = api.Event{Kind: api.EvInject}
		}
		for i := range otherSet {
			otherSet[i] = -1
		}
		if askAll(s, set) != want {
			t.Fatal("rule 6: other answers than before")
		}
	}
}

// TestEmpty: rule 5: nil and an empty list are the same where they are handed in.
func TestEmpty(t *testing.T) {
	for seed := range int64(200) {
		s, set := drawnScript(rand.New(rand.NewSource(seed)))
		nils, empties := s, s
		nils.Events, empties.Events = slices.Clone(s.Events), slices.Clone(s.Events)
		for i, e := range s.Events {
			if len(e.Body) == 0 {
				nils.Events[i].Body, empties.Events[i].Body = nil, []byte{}
			}
			if len(e.Sides) == 0 {
				nils.Events[i].Sides, empties.Events[i].Sides = nil, []int{}
			}
		}
		if len(s.Events) == 0 {
			nils.Events, empties.Events = nil, []api.Event{}
		}
		if askAll(nils, set) != askAll(empties, set) {
			t.Fatal("rule 5: nil and an empty list are not the same")
		}
	}
	s := api.Script{Config: config(1)}
	wantPremise(t, "no list of events", s, []int{0}, 0, 1, api.OK)
	s.Events = []api.Event{}
	wantPremise(t, "an empty list of events", s, []int{0}, 0, 1, api.OK)
	wantPremise(t, "no set", s, nil, 0, 0, api.ErrArg)
	wantPremise(t, "an empty set", s, []int{}, 0, 0, api.ErrArg)
}

// TestAlike: rule 6: the same answers each time, whoever else asks at the same time.
func TestAlike(t *testing.T) {
	s, set := drawnScript(rand.New(rand.NewSource(3)))
	want := askAll(s, set)
	var all sync.WaitGroup
	for range 8 {
		all.Go(func() {
			for range 50 {
				if askAll(s, set) != want {
					t.Error("rule 6: other answers than before")
				}
			}
		})
	}
	all.Wait()
}

// TestKeepsNothing: nothing is kept from call to call.
func TestKeepsNothing(t *testing.T) {
	heap := func() uint64 {
		var m runtime.MemStats
		runtime.GC()
		runtime.GC()
		runtime.ReadMemStats(&m)
		return m.HeapAlloc
	}
	s := api.Script{Config: config(16), Events: rounds(api.MaxEvents)}
	bound.Premise(s, all(16))
	before := heap()
	for range 200 {
		bound.Premise(s, all(16))
	}
	if after := heap(); after > before+100000 {
		t.Errorf("%d bytes are kept of two hundred calls", after-before)
	}
	runtime.KeepAlive(s)
}

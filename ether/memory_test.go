package ether_test

import (
	"math/rand"
	"slices"
	"testing"

	"quorate/api"
	"quorate/ether"
)

// scribble writes over a list, its spare room too.
func scribble[T any](l []T, with T) {
	l = l[:cap(l)]
	for i := range l {
		l[i] = with
	}
}

func copyFlights(l []api.Flight) []api.Flight {
	l = slices.Clone(l)
	for k := range l {
		l[k].Bytes = slices.Clone(l[k].Bytes)
	}
	return l
}

// scribbleFlights writes over each flight's bytes in turn, looking whether another one's change, and then over the list.
func scribbleFlights(t *testing.T, what string, l []api.Flight) {
	t.Helper()
	want := copyFlights(l)
	for k := range l {
		scribble(l[k].Bytes, 'X')
		scribble(want[k].Bytes, 'X')
		if !sameFlights(l, want) {
			t.Fatalf("rule 5: %s: writing into entry %d changed another one", what, k)
		}
	}
	scribble(l, api.Flight{Id: 99})
}

func fill(t *testing.T) *ether.Net {
	t.Helper()
	n := made(t, 3, 9)
	do(t, n, api.Event{Kind: api.EvDelay, A: 0, B: 1, N: 2})
	post(t, n, 0, 1, "abc", 1)
	post(t, n, 1, 2, "def", 2)
	post(t, n, 2, 0, "ghi", 3)
	do(t, n, api.Event{Kind: api.EvDup, A: 1})
	do(t, n, api.Event{Kind: api.EvInject, A: 2, B: 1, Body: []byte("jkl")})
	return n
}

func TestArgumentsStay(t *testing.T) {
	n := made(t, 3, 9)
	given := append(make([]byte, 0, 9), "abc"...)
	sides := []int{0, 0, 7}
	n.Post(0, 1, given)
	do(t, n, api.Event{Kind: api.EvInject, A: 0, B: 1, Body: given})
	do(t, n, api.Event{Kind: api.EvFlip, A: 0, N: 0})
	do(t, n, api.Event{Kind: api.EvFlip, A: 1, N: 1})
	do(t, n, api.Event{Kind: api.EvSplit, Sides: sides})
	if string(given[:cap(given)]) != "abc\x00\x00\x00\x00\x00\x00" || !slices.Equal(sides, []int{0, 0, 7}) {
		t.Errorf("rule 5: the arguments are %q, %v now", given[:cap(given)], sides)
	}
	before := look(n)
	scribble(given, 'X')
	scribble(sides, 5)
	if got := look(n); !sameSeen(got, before) {
		t.Errorf("3.1: writing into what was handed in changed the network: %v, was %v", got, before)
	}
	wantFlights(t, "3.1: on their way is a copy", n.Flights(), flight(1, 0, 1, 1, "`bc"), flight(2, 0, 1, 1, "cbc"))
}

func TestAnswersAreNew(t *testing.T) {
	n := fill(t)
	before := look(n)
	scribbleFlights(t, "Flights", n.Flights())
	if got := look(n); !sameSeen(got, before) {
		t.Errorf("rule 5: writing into Flights changed the network: %v, was %v", got, before)
	}
	f, _ := n.Take(1)
	want := look(n)
	scribble(f.Bytes, 'X')
	if got := look(n); !sameSeen(got, want) {
		t.Errorf("rule 5: writing into Take changed the network: %v, was %v", got, want)
	}
	arrived := n.Round()
	want = look(n)
	scribbleFlights(t, "Round", arrived)
	if got := look(n); !sameSeen(got, want) {
		t.Errorf("rule 5: writing into Round changed the network: %v, was %v", got, want)
	}
	post(t, n, 0, 1, "mno", 6)
	wantFlights(t, "rule 5: Flights", n.Flights(), flight(1, 0, 1, 2, "abc"), flight(6, 0, 1, 3, "mno"))
}

// TestTwinsApart: a doubled packet's bytes are its own.
func TestTwinsApart(t *testing.T) {
	n := made(t, 2, 5)
	post(t, n, 0, 1, "\x00", 1)
	do(t, n, api.Event{Kind: api.EvDup})
	do(t, n, api.Event{Kind: api.EvFlip, A: 0, N: 0})
	do(t, n, api.Event{Kind: api.EvFlip, A: 1, N: 7})
	wantFlights(t, "P3.11: dup", n.Flights(), flight(1, 0, 1, 1, "\x01"), flight(2, 0, 1, 1, "\x80"))
	scribbleFlights(t, "Round", n.Round())
}

// TestAnswersStay: no later call changes what was answered.
func TestAnswersStay(t *testing.T) {
	r := rand.New(rand.NewSource(5))
	for range 100 {
		n, m := made(t, 3, 9), newModel(3, 9)
		var told, asTold [][]api.Flight
		for range 60 {
			wildStep(r, n, m)
			for _, l := range [][]api.Flight{n.Flights(), n.Round()} {
				told, asTold = append(told, l), append(asTold, copyFlights(l))
			}
			if f, e := n.Take(0); e == api.OK {
				l := []api.Flight{f}
				told, asTold = append(told, l), append(asTold, copyFlights(l))
			}
			n.Post(0, 1, []byte("abc"))
			n.Do(api.Event{Kind: api.EvDup})
			n.Do(api.Event{Kind: api.EvFlip})
		}
		for i := range told {
			if !sameFlights(told[i], asTold[i]) {
				t.Fatalf("rule 5: an answer changed: %v, was %v", told[i], asTold[i])
			}
		}
		for i := range told {
			scribbleFlights(t, "all answers", told[i])
			for j := i + 1; j < len(told); j++ {
				if !sameFlights(told[j], asTold[j]) {
					t.Fatalf("rule 5: two answers share memory: %v, was %v", told[j], asTold[j])
				}
			}
		}
	}
}

// TestNetsApart: what a network answers hangs on the calls on it alone.
func TestNetsApart(t *testing.T) {
	a, b := fill(t), fill(t)
	before := look(b)
	crash(t, a, 0)
	do(t, a, api.Event{Kind: api.EvSplit, Sides: []int{0, 1, 2}})
	do(t, a, api.Event{Kind: api.EvDelay, A: 0, B: 1, N: 9})
	a.Tick(1)
	a.Round()
	if got := look(b); !sameSeen(got, before) {
		t.Errorf("rule 6: calls on one network changed another: %v, was %v", got, before)
	}
}

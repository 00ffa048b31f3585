package ether_test

import (
	"testing"

	"quorate/api"
)

// TestExamples: those of the chapter, by their numbers.
func TestExamples(t *testing.T) {
	t.Run("1", func(t *testing.T) {
		n := made(t, 3, 10)
		post(t, n, 0, 1, "a", 1)
		post(t, n, 1, 0, "b", 2)
		both := []api.Flight{flight(1, 0, 1, 1, "a"), flight(2, 1, 0, 1, "b")}
		wantFlights(t, "Flights", n.Flights(), both...)
		wantFlights(t, "Round", n.Round(), both...)
		if n.Clock() != 1 {
			t.Errorf("the clock is %d, want 1", n.Clock())
		}
	})
	t.Run("2", func(t *testing.T) {
		n := made(t, 2, 1)
		post(t, n, 0, 1, "x", 1)
		refusedPost(t, n, 0, 1, []byte("y"), api.ErrRoom)
		refusedDo(t, n, api.Event{Kind: api.EvDup}, api.ErrRoom)
		wantFlights(t, "Round", n.Round(), flight(1, 0, 1, 1, "x"))
		post(t, n, 0, 1, "y", 2)
		wantFlights(t, "Flights", n.Flights(), flight(2, 0, 1, 2, "y"))
	})
	t.Run("3", func(t *testing.T) {
		n := made(t, 2, 5)
		do(t, n, api.Event{Kind: api.EvDelay, A: 0, B: 1, N: 3})
		post(t, n, 0, 1, "p", 1)
		do(t, n, api.Event{Kind: api.EvDelay, A: 0, B: 1, N: 1})
		post(t, n, 0, 1, "q", 2)
		wantFlights(t, "Round 1", n.Round(), flight(2, 0, 1, 1, "q"))
		wantFlights(t, "Round 2", n.Round())
		wantFlights(t, "Round 3", n.Round(), flight(1, 0, 1, 3, "p"))
	})
	t.Run("4", func(t *testing.T) {
		n := made(t, 2, 5)
		post(t, n, 0, 1, "x", 1)
		crash(t, n, 1)
		wantFlights(t, "Round", n.Round())
		wantFlights(t, "Flights", n.Flights())
		restart(t, n, 1, 2)
		if n.Inc(1) != 2 || n.Ticks(1) != 0 {
			t.Errorf("Inc(1) = %d, Ticks(1) = %d, want 2, 0", n.Inc(1), n.Ticks(1))
		}
	})
	t.Run("5", func(t *testing.T) {
		n := made(t, 2, 5)
		post(t, n, 0, 1, "x", 1)
		crash(t, n, 1)
		restart(t, n, 1, 2)
		wantFlights(t, "Round", n.Round(), flight(1, 0, 1, 1, "x"))
	})
	t.Run("6", func(t *testing.T) {
		n := made(t, 3, 5)
		do(t, n, api.Event{Kind: api.EvSplit, Sides: []int{0, 0, 7}})
		for p := range 3 {
			for q := range 3 {
				if want := p+q == 1; n.Open(p, q) != want {
					t.Errorf("Open(%d, %d) is not %v", p, q, want)
				}
			}
		}
		refusedPost(t, n, 0, 2, []byte("x"), api.ErrCut)
		do(t, n, api.Event{Kind: api.EvHeal, A: 0, B: 2})
		post(t, n, 0, 2, "x", 1)
		do(t, n, api.Event{Kind: api.EvCut, A: 0, B: 2})
		refusedTake(t, n, 0, api.ErrCut)
		wantFlights(t, "Flights", n.Flights(), flight(1, 0, 2, 1, "x"))
		wantFlights(t, "Round", n.Round())
		wantFlights(t, "Flights", n.Flights())
	})
	t.Run("7", func(t *testing.T) {
		n := made(t, 2, 5)
		post(t, n, 0, 1, "\x01\x02", 1)
		do(t, n, api.Event{Kind: api.EvFlip, A: 0, N: 9})
		wantFlights(t, "Flights", n.Flights(), flight(1, 0, 1, 1, "\x01\x00"))
		refusedDo(t, n, api.Event{Kind: api.EvFlip, A: 0, N: 16}, api.ErrArg)
		refusedDo(t, n, api.Event{Kind: api.EvFlip, A: 1, N: 0}, api.ErrNone)
		do(t, n, api.Event{Kind: api.EvHold, A: 0, N: 16})
		wantFlights(t, "Flights", n.Flights(), flight(1, 0, 1, 17, "\x01\x00"))
	})
	t.Run("8", func(t *testing.T) {
		n := made(t, 2, 5)
		crash(t, n, 0)
		refusedPost(t, n, 0, 1, []byte("x"), api.ErrDown)
		do(t, n, api.Event{Kind: api.EvInject, A: 0, B: 1, Body: []byte("x")})
		wantFlights(t, "Flights", n.Flights(), flight(1, 0, 1, 1, "x"))
		refusedPost(t, n, 0, 0, []byte("x"), api.ErrArg)
	})
}

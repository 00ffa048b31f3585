package ether_test

import (
	"math"
	"strings"
	"testing"

	"quorate/api"
)

func TestPost(t *testing.T) {
	n := made(t, 3, 5)
	n.Round()
	do(t, n, api.Event{Kind: api.EvDelay, A: 2, B: 0, N: 16})
	long := strings.Repeat("y", api.MaxPacket)
	post(t, n, 0, 1, "a", 1)
	post(t, n, 2, 0, "", 2)
	post(t, n, 1, 0, long, 3)
	crash(t, n, 0)
	post(t, n, 1, 0, "to a node that is down", 4)
	wantFlights(t, "P3.10: Flights", n.Flights(),
		flight(1, 0, 1, 2, "a"), flight(2, 2, 0, 17, ""), flight(3, 1, 0, 2, long), flight(4, 1, 0, 2, "to a node that is down"))
}

// TestPostErrors: of several errors the one that the chapter names first.
func TestPostErrors(t *testing.T) {
	small, long := []byte("x"), make([]byte, api.MaxPacket+1)
	n := made(t, 3, 1)
	refusedPost(t, n, 0, 1, long, api.ErrArg)
	post(t, n, 0, 1, "fills it", 1)
	refusedPost(t, n, 1, 0, small, api.ErrRoom)
	do(t, n, api.Event{Kind: api.EvCut, A: 1, B: 0})
	refusedPost(t, n, 1, 0, small, api.ErrCut)
	crash(t, n, 1)
	refusedPost(t, n, 1, 0, small, api.ErrDown)
	refusedPost(t, n, 1, 0, long, api.ErrArg)
	refusedPost(t, n, 1, 1, small, api.ErrArg)
	refusedPost(t, n, 1, 3, small, api.ErrArg)
	n.Round()
	refusedPost(t, n, 1, 0, small, api.ErrDown)
	restart(t, n, 1, 2)
	refusedPost(t, n, 1, 0, small, api.ErrCut)
	do(t, n, api.Event{Kind: api.EvHeal, A: 1, B: 0})
	post(t, n, 1, 0, "no number was used up", 2)
}

func TestRoom(t *testing.T) {
	for _, room := range []int{1, 2, 7} {
		n := made(t, 2, room)
		for k := range room {
			post(t, n, k%2, 1-k%2, "x", k+1)
		}
		refusedPost(t, n, 0, 1, nil, api.ErrRoom)
		refusedDo(t, n, api.Event{Kind: api.EvDup}, api.ErrRoom)
		refusedDo(t, n, api.Event{Kind: api.EvInject, B: 1}, api.ErrRoom)
		refusedDo(t, n, api.Event{Kind: api.EvDup, A: room}, api.ErrNone)
		do(t, n, api.Event{Kind: api.EvDrop})
		post(t, n, 0, 1, "y", room+1)
		refusedPost(t, n, 0, 1, nil, api.ErrRoom)
		if _, e := n.Take(room - 1); e != api.OK {
			t.Errorf("P3.9: Take(%d): error %d", room-1, e)
		}
		post(t, n, 0, 1, "z", room+2)
		refusedPost(t, n, 0, 1, nil, api.ErrRoom)
		if got := len(n.Round()); got != room {
			t.Errorf("P3.8: %d arrived, want %d", got, room)
		}
		post(t, n, 0, 1, "w", room+3)
	}
}

func TestGreatestRoom(t *testing.T) {
	n := made(t, 2, api.MaxRoom)
	for k := range api.MaxRoom {
		post(t, n, 0, 1, "x", k+1)
	}
	if _, e := n.Post(0, 1, nil); e != api.ErrRoom {
		t.Errorf("P3.7: Post into a full network: error %d, want %d", e, api.ErrRoom)
	}
	if got := len(n.Round()); got != api.MaxRoom {
		t.Errorf("P3.8: %d arrived, want %d", got, api.MaxRoom)
	}
}

func TestRound(t *testing.T) {
	n := made(t, 3, 20)
	for _, d := range []struct{ p, q, delay int }{{0, 1, 2}, {0, 2, 3}, {1, 2, 2}} {
		do(t, n, api.Event{Kind: api.EvDelay, A: d.p, B: d.q, N: d.delay})
	}
	post(t, n, 0, 2, "a", 1)
	post(t, n, 0, 1, "b", 2)
	post(t, n, 1, 0, "c", 3)
	post(t, n, 1, 2, "d", 4)
	post(t, n, 2, 0, "e", 5)
	wantFlights(t, "P3.8: round 1", n.Round(), flight(3, 1, 0, 1, "c"), flight(5, 2, 0, 1, "e"))
	wantFlights(t, "P3.10: behind round 1", n.Flights(), flight(1, 0, 2, 3, "a"), flight(2, 0, 1, 2, "b"), flight(4, 1, 2, 2, "d"))
	wantFlights(t, "P3.8: round 2", n.Round(), flight(2, 0, 1, 2, "b"), flight(4, 1, 2, 2, "d"))
	post(t, n, 0, 1, "f", 6)
	wantFlights(t, "P3.8: round 3", n.Round(), flight(1, 0, 2, 3, "a"))
	wantFlights(t, "P3.8: round 4", n.Round(), flight(6, 0, 1, 4, "f"))
	wantFlights(t, "P3.8: round 5", n.Round())
	if n.Clock() != 5 || len(n.Flights()) != 0 {
		t.Errorf("P3.8: the clock is %d, want 5; on their way are %v", n.Clock(), n.Flights())
	}
}

// TestLost: what is due over a closed path or to a node that is down is lost, and nothing else is asked.
func TestLost(t *testing.T) {
	n := made(t, 4, 20)
	post(t, n, 0, 1, "closed", 1)
	post(t, n, 1, 0, "the way back is open", 2)
	post(t, n, 0, 2, "down", 3)
	post(t, n, 2, 0, "from one that is down", 4)
	post(t, n, 0, 3, "to a new incarnation", 5)
	post(t, n, 3, 0, "of an old incarnation", 6)
	do(t, n, api.Event{Kind: api.EvDelay, A: 1, B: 3, N: 2})
	post(t, n, 1, 3, "closed, but not due", 7)
	do(t, n, api.Event{Kind: api.EvCut, A: 0, B: 1})
	do(t, n, api.Event{Kind: api.EvCut, A: 1, B: 3})
	crash(t, n, 2)
	crash(t, n, 3)
	restart(t, n, 3, 2)
	if got := len(n.Flights()); got != 7 {
		t.Errorf("P3.4, P3.11: a crash or a cut took packets out: %d are left, want 7", got)
	}
	wantFlights(t, "P3.8: what arrives", n.Round(),
		flight(2, 1, 0, 1, "the way back is open"), flight(4, 2, 0, 1, "from one that is down"),
		flight(5, 0, 3, 1, "to a new incarnation"), flight(6, 3, 0, 1, "of an old incarnation"))
	wantFlights(t, "P3.8: what is left", n.Flights(), flight(7, 1, 3, 2, "closed, but not due"))
	do(t, n, api.Event{Kind: api.EvHeal, A: 0, B: 1})
	do(t, n, api.Event{Kind: api.EvHeal, A: 1, B: 3})
	restart(t, n, 2, 2)
	wantFlights(t, "P3.13: the round behind", n.Round(), flight(7, 1, 3, 2, "closed, but not due"))
	wantFlights(t, "P3.13: what was lost stays lost", n.Round())
}

func TestTake(t *testing.T) {
	n := made(t, 3, 20)
	do(t, n, api.Event{Kind: api.EvDelay, A: 0, B: 1, N: 9})
	for k, b := range []string{"a", "b", "c", "d"} {
		post(t, n, 0, 1, b, k+1)
	}
	for _, step := range []struct {
		place int
		want  api.Flight
	}{
		{1, flight(2, 0, 1, 9, "b")},
		{2, flight(4, 0, 1, 9, "d")},
		{0, flight(1, 0, 1, 9, "a")},
		{0, flight(3, 0, 1, 9, "c")},
	} {
		want := look(n)
		want.flights = append(want.flights[:step.place:step.place], want.flights[step.place+1:]...)
		if f, e := n.Take(step.place); e != api.OK || !sameFlight(f, step.want) {
			t.Errorf("P3.9: Take(%d) = %v, error %d, want %v", step.place, f, e, step.want)
		}
		if got := look(n); !sameSeen(got, want) {
			t.Errorf("P3.9: behind Take(%d): %v, want %v", step.place, got, want)
		}
	}
	refusedTake(t, n, 0, api.ErrNone)
}

func TestTakeErrors(t *testing.T) {
	n := made(t, 2, 5)
	post(t, n, 0, 1, "x", 1)
	for _, k := range append(farNumbers(), 1, 5) {
		refusedTake(t, n, k, api.ErrNone)
	}
	crash(t, n, 1)
	refusedTake(t, n, 0, api.ErrDown)
	do(t, n, api.Event{Kind: api.EvCut, A: 0, B: 1})
	refusedTake(t, n, 0, api.ErrCut)
	refusedTake(t, n, 1, api.ErrNone)
	restart(t, n, 1, 2)
	refusedTake(t, n, 0, api.ErrCut)
	do(t, n, api.Event{Kind: api.EvHeal, A: 0, B: 1})
	do(t, n, api.Event{Kind: api.EvCut, A: 1, B: 0})
	crash(t, n, 0)
	if f, e := n.Take(0); e != api.OK || !sameFlight(f, flight(1, 0, 1, 1, "x")) {
		t.Errorf("P3.9: Take(0) = %v, error %d: neither the way back nor the sender is asked", f, e)
	}
}

func TestFlightsTells(t *testing.T) {
	n := made(t, 2, 5)
	wantFlights(t, "P3.10: none", n.Flights())
	post(t, n, 0, 1, "x", 1)
	for range 3 {
		wantFlights(t, "P3.10: Flights takes nothing out", n.Flights(), flight(1, 0, 1, 1, "x"))
	}
	refused(t, n, "rule 7: what tells", api.OK, func() api.Errno {
		look(n)
		return api.OK
	})
}

func TestDropAndDup(t *testing.T) {
	n := made(t, 3, 20)
	do(t, n, api.Event{Kind: api.EvDelay, A: 0, B: 1, N: 4})
	post(t, n, 0, 1, "a", 1)
	post(t, n, 1, 2, "b", 2)
	post(t, n, 2, 0, "c", 3)
	n.Round()
	post(t, n, 1, 2, "d", 4)
	do(t, n, api.Event{Kind: api.EvCut, A: 0, B: 1})
	crash(t, n, 0)
	crash(t, n, 1)
	do(t, n, api.Event{Kind: api.EvDelay, A: 0, B: 1, N: 1})
	do(t, n, api.Event{Kind: api.EvDup, A: 0, B: 9, N: -1})
	wantFlights(t, "P3.11: dup 0", n.Flights(), flight(1, 0, 1, 4, "a"), flight(4, 1, 2, 2, "d"), flight(5, 0, 1, 4, "a"))
	do(t, n, api.Event{Kind: api.EvDup, A: 1})
	do(t, n, api.Event{Kind: api.EvDrop, A: 1, B: 9, N: -1})
	wantFlights(t, "P3.11: drop 1", n.Flights(), flight(1, 0, 1, 4, "a"), flight(5, 0, 1, 4, "a"), flight(6, 1, 2, 2, "d"))
	for _, kind := range []int{api.EvDrop, api.EvDup, api.EvHold, api.EvFlip} {
		for _, k := range append(farNumbers(), 3) {
			refusedDo(t, n, api.Event{Kind: kind, A: k, N: 1}, api.ErrNone)
			refusedDo(t, n, api.Event{Kind: kind, A: k, N: -1}, api.ErrNone)
		}
	}
	for range 3 {
		do(t, n, api.Event{Kind: api.EvDrop})
	}
	refusedDo(t, n, api.Event{Kind: api.EvDrop}, api.ErrNone)
}

func TestHold(t *testing.T) {
	n := made(t, 2, 5)
	post(t, n, 0, 1, "a", 1)
	post(t, n, 0, 1, "b", 2)
	do(t, n, api.Event{Kind: api.EvHold, A: 0, B: 9, N: 1})
	wantFlights(t, "P3.11: hold 0 1", n.Flights(), flight(1, 0, 1, 2, "a"), flight(2, 0, 1, 1, "b"))
	for _, wrong := range []int{0, -1, api.MaxDelay + 1, math.MinInt, math.MaxInt} {
		refusedDo(t, n, api.Event{Kind: api.EvHold, A: 0, N: wrong}, api.ErrArg)
	}
	for range 3 {
		do(t, n, api.Event{Kind: api.EvHold, A: 0, N: api.MaxDelay})
	}
	wantFlights(t, "P3.11: hold 0 16, three times", n.Flights(), flight(1, 0, 1, 50, "a"), flight(2, 0, 1, 1, "b"))
	wantFlights(t, "P3.8: round 1", n.Round(), flight(2, 0, 1, 1, "b"))
	for n.Clock() < 49 {
		wantFlights(t, "P3.8: held", n.Round())
	}
	wantFlights(t, "P3.8: round 50", n.Round(), flight(1, 0, 1, 50, "a"))
}

func TestFlip(t *testing.T) {
	for bit := range 24 {
		n := made(t, 2, 5)
		post(t, n, 0, 1, "\x00\xff\x5a", 1)
		post(t, n, 0, 1, "\x00\xff\x5a", 2)
		want := []byte("\x00\xff\x5a")
		want[bit/8] ^= 1 << (bit % 8)
		do(t, n, api.Event{Kind: api.EvFlip, A: 1, B: 9, N: bit})
		wantFlights(t, "P3.11: flip", n.Flights(), flight(1, 0, 1, 1, "\x00\xff\x5a"), flight(2, 0, 1, 1, string(want)))
		do(t, n, api.Event{Kind: api.EvFlip, A: 1, N: bit})
		wantFlights(t, "P3.11: flip and back", n.Flights(), flight(1, 0, 1, 1, "\x00\xff\x5a"), flight(2, 0, 1, 1, "\x00\xff\x5a"))
		for _, wrong := range []int{-1, -8, 24, 25, math.MinInt, math.MaxInt} {
			refusedDo(t, n, api.Event{Kind: api.EvFlip, A: 1, N: wrong}, api.ErrArg)
		}
	}
	n := made(t, 2, 5)
	post(t, n, 0, 1, "", 1)
	refusedDo(t, n, api.Event{Kind: api.EvFlip}, api.ErrArg)
}

func TestInject(t *testing.T) {
	small, long := []byte("x"), make([]byte, api.MaxPacket+1)
	inject := api.Event{Kind: api.EvInject, A: 0, B: 1, N: -1, Body: small}
	n := made(t, 2, 2)
	n.Round()
	crash(t, n, 0)
	crash(t, n, 1)
	do(t, n, api.Event{Kind: api.EvDelay, A: 0, B: 1, N: 3})
	do(t, n, inject)
	do(t, n, api.Event{Kind: api.EvInject, A: 1, B: 0})
	wantFlights(t, "P3.11: inject", n.Flights(), flight(1, 0, 1, 4, "x"), flight(2, 1, 0, 2, ""))
	refusedDo(t, n, inject, api.ErrRoom)
	do(t, n, api.Event{Kind: api.EvCut, A: 0, B: 1})
	refusedDo(t, n, inject, api.ErrCut)
	refusedDo(t, n, api.Event{Kind: api.EvInject, A: 0, B: 1, Body: long}, api.ErrArg)
	refusedDo(t, n, api.Event{Kind: api.EvInject, A: 0, B: 0, Body: small}, api.ErrArg)
	refusedDo(t, n, api.Event{Kind: api.EvInject, A: 0, B: 2, Body: small}, api.ErrArg)
	do(t, n, api.Event{Kind: api.EvDrop})
	refusedDo(t, n, inject, api.ErrCut)
	do(t, n, api.Event{Kind: api.EvHeal, A: 0, B: 1})
	do(t, n, api.Event{Kind: api.EvInject, A: 0, B: 1, Body: long[1:]})
	wantFlights(t, "P3.11: inject", n.Flights(), flight(2, 1, 0, 2, ""), flight(3, 0, 1, 4, string(long[1:])))
}

// TestOtherKinds: with arguments that would fit all of them.
func TestOtherKinds(t *testing.T) {
	n := made(t, 3, 5)
	post(t, n, 0, 1, "x", 1)
	for kind := -2; kind <= 300; kind++ {
		switch kind {
		case api.EvCut, api.EvHeal, api.EvDelay, api.EvSplit, api.EvDrop, api.EvDup, api.EvHold, api.EvFlip, api.EvInject:
			continue
		}
		refusedDo(t, n, api.Event{Kind: kind, A: 0, B: 1, N: 2, Sides: []int{0, 0, 1}, Body: []byte("y")}, api.ErrArg)
	}
	for _, kind := range []int{math.MinInt, math.MaxInt, 256 + api.EvDrop, 1<<32 + api.EvDrop} {
		refusedDo(t, n, api.Event{Kind: kind}, api.ErrArg)
	}
}

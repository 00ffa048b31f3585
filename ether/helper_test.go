package ether_test

import (
	"math"
	"reflect"
	"testing"

	"quorate/api"
	"quorate/ether"
)

// farNumbers are no nodes and no places of any network here.
func farNumbers() []int {
	return []int{-1, -2, math.MinInt, math.MaxInt, api.MaxCount, api.MaxNodes, api.MaxRoom}
}

func made(t *testing.T, nodes, room int) *ether.Net {
	t.Helper()
	n, e := ether.New(nodes, room)
	if n == nil || e != api.OK {
		t.Fatalf("P3.1: New(%d, %d): error %d, want a network", nodes, room, e)
	}
	return n
}

func flight(id, src, dst, due int, b string) api.Flight {
	return api.Flight{Id: id, Src: src, Dst: dst, Due: due, Bytes: []byte(b)}
}

func sameFlight(f, g api.Flight) bool {
	return f.Id == g.Id && f.Src == g.Src && f.Dst == g.Dst && f.Due == g.Due && string(f.Bytes) == string(g.Bytes)
}

func sameFlights(a, b []api.Flight) bool {
	if len(a) != len(b) {
		return false
	}
	for k := range a {
		if !sameFlight(a[k], b[k]) {
			return false
		}
	}
	return true
}

func wantFlights(t *testing.T, what string, got []api.Flight, want ...api.Flight) {
	t.Helper()
	if !sameFlights(got, want) {
		t.Errorf("%s: %.300v, want %.300v", what, got, want)
	}
}

func post(t *testing.T, n *ether.Net, src, dst int, b string, id int) {
	t.Helper()
	if got, e := n.Post(src, dst, []byte(b)); got != id || e != api.OK {
		t.Fatalf("P3.7: Post(%d, %d, %.20q) = %d, error %d, want %d", src, dst, b, got, e, id)
	}
}

func do(t *testing.T, n *ether.Net, v api.Event) {
	t.Helper()
	if e := n.Do(v); e != api.OK {
		t.Fatalf("P3.11: Do(%.100v): error %d, want OK", v, e)
	}
}

func crash(t *testing.T, n *ether.Net, p int) {
	t.Helper()
	if e := n.Crash(p); e != api.OK {
		t.Fatalf("P3.4: Crash(%d): error %d, want OK", p, e)
	}
}

func restart(t *testing.T, n *ether.Net, p, inc int) {
	t.Helper()
	if got, e := n.Restart(p); got != inc || e != api.OK {
		t.Fatalf("P3.5: Restart(%d) = %d, error %d, want %d", p, got, e, inc)
	}
}

// seen is all that a network tells of itself.
type seen struct {
	clock   int
	up      [api.MaxNodes]bool
	inc     [api.MaxNodes]int
	ticks   [api.MaxNodes]int
	open    [api.MaxNodes][api.MaxNodes]bool
	delay   [api.MaxNodes][api.MaxNodes]int
	flights []api.Flight
}

func look(n *ether.Net) seen {
	s := seen{clock: n.Clock(), flights: n.Flights()}
	for p := range api.MaxNodes {
		s.up[p], s.inc[p], s.ticks[p] = n.Up(p), n.Inc(p), n.Ticks(p)
		for q := range api.MaxNodes {
			s.open[p][q], s.delay[p][q] = n.Open(p, q), n.Delay(p, q)
		}
	}
	return s
}

func sameSeen(a, b seen) bool {
	if !sameFlights(a.flights, b.flights) {
		return false
	}
	a.flights, b.flights = nil, nil
	return reflect.DeepEqual(a, b)
}

// refused tells whether a call answers this error and leaves the network as it was.
func refused(t *testing.T, n *ether.Net, what string, want api.Errno, call func() api.Errno) {
	t.Helper()
	before := look(n)
	if e := call(); e != want {
		t.Errorf("%s: error %d, want %d", what, e, want)
	}
	if after := look(n); !sameSeen(after, before) {
		t.Errorf("%s: an error changed the network: %.300v, was %.300v", what, after, before)
	}
}

func refusedPost(t *testing.T, n *ether.Net, src, dst int, b []byte, want api.Errno) {
	t.Helper()
	refused(t, n, "P3.7: Post", want, func() api.Errno {
		id, e := n.Post(src, dst, b)
		if id != 0 {
			t.Errorf("P3.7: Post(%d, %d): the number %d beside the error %d", src, dst, id, e)
		}
		return e
	})
}

func refusedTake(t *testing.T, n *ether.Net, k int, want api.Errno) {
	t.Helper()
	refused(t, n, "P3.9: Take", want, func() api.Errno {
		f, e := n.Take(k)
		if !sameFlight(f, api.Flight{}) {
			t.Errorf("P3.9: Take(%d): %v beside the error %d", k, f, e)
		}
		return e
	})
}

func refusedDo(t *testing.T, n *ether.Net, v api.Event, want api.Errno) {
	t.Helper()
	refused(t, n, "P3.11: Do", want, func() api.Errno { return n.Do(v) })
}

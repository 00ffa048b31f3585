package ether_test

import (
	"testing"

	"quorate/api"
)

// TestReadme: what README.md shows of this package.
func TestReadme(t *testing.T) {
	n := made(t, 2, 500)
	do(t, n, api.Event{Kind: api.EvDelay, A: 0, B: 1, N: 2})
	post(t, n, 0, 1, "x", 1)
	wantFlights(t, "round 1", n.Round())
	do(t, n, api.Event{Kind: api.EvDup, A: 0})
	wantFlights(t, "round 2", n.Round(), flight(1, 0, 1, 2, "x"), flight(2, 0, 1, 2, "x"))
}

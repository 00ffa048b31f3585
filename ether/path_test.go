package ether_test

import (
	"math"
	"testing"

	"quorate/api"
)

// noPaths are pairs that are no paths of a network with three nodes.
func noPaths() [][2]int {
	pairs := [][2]int{{0, 0}, {1, 1}, {2, 2}, {3, 3}, {-1, -1}, {0, 3}, {3, 0}}
	for _, far := range farNumbers() {
		pairs = append(pairs, [2]int{0, far}, [2]int{far, 0}, [2]int{far, far})
	}
	return pairs
}

func TestNoPath(t *testing.T) {
	n := made(t, 3, 5)
	for _, pair := range noPaths() {
		p, q := pair[0], pair[1]
		if n.Open(p, q) || n.Delay(p, q) != 0 {
			t.Errorf("P3.6: from %d to %d is no path: Open %v, Delay %d", p, q, n.Open(p, q), n.Delay(p, q))
		}
		for _, kind := range []int{api.EvCut, api.EvHeal, api.EvDelay, api.EvInject} {
			refusedDo(t, n, api.Event{Kind: kind, A: p, B: q, N: 2}, api.ErrArg)
		}
		refusedPost(t, n, p, q, nil, api.ErrArg)
	}
}

func TestCutAndHeal(t *testing.T) {
	n := made(t, 3, 5)
	for p := range 3 {
		for q := range 3 {
			if p == q {
				continue
			}
			want := look(n)
			want.open[p][q] = false
			for range 2 {
				do(t, n, api.Event{Kind: api.EvCut, A: p, B: q, N: -7})
				if got := look(n); !sameSeen(got, want) {
					t.Errorf("P3.11: cut %d %d: %v, want %v", p, q, got, want)
				}
			}
			refusedPost(t, n, p, q, nil, api.ErrCut)
			want.open[p][q] = true
			for range 2 {
				do(t, n, api.Event{Kind: api.EvHeal, A: p, B: q, N: -7})
				if got := look(n); !sameSeen(got, want) {
					t.Errorf("P3.11: heal %d %d: %v, want %v", p, q, got, want)
				}
			}
		}
	}
}

func TestDelay(t *testing.T) {
	n := made(t, 2, 40)
	want := look(n)
	for delay := 1; delay <= api.MaxDelay; delay++ {
		do(t, n, api.Event{Kind: api.EvDelay, A: 1, B: 0, N: delay})
		want.delay[1][0] = delay
		if got := look(n); !sameSeen(got, want) {
			t.Errorf("P3.11: delay 1 0 %d: %v, want %v", delay, got, want)
		}
		post(t, n, 1, 0, "x", delay)
		want.flights = append(want.flights, flight(delay, 1, 0, delay, "x"))
		for _, wrong := range []int{0, -1, api.MaxDelay + 1, math.MinInt, math.MaxInt} {
			refusedDo(t, n, api.Event{Kind: api.EvDelay, A: 1, B: 0, N: wrong}, api.ErrArg)
		}
	}
	do(t, n, api.Event{Kind: api.EvDelay, A: 1, B: 0, N: 1})
	want.delay[1][0] = 1
	if got := look(n); !sameSeen(got, want) {
		t.Errorf("P3.11: delay 1 0 1: %v, want %v", got, want)
	}
}

func TestDelayOfClosedPath(t *testing.T) {
	n := made(t, 2, 5)
	do(t, n, api.Event{Kind: api.EvCut, A: 0, B: 1})
	do(t, n, api.Event{Kind: api.EvDelay, A: 0, B: 1, N: 9})
	if n.Open(0, 1) || n.Delay(0, 1) != 9 {
		t.Errorf("P3.11: a closed path: Open %v, Delay %d, want false, 9", n.Open(0, 1), n.Delay(0, 1))
	}
	do(t, n, api.Event{Kind: api.EvHeal, A: 0, B: 1})
	if !n.Open(0, 1) || n.Delay(0, 1) != 9 {
		t.Errorf("P3.11: a healed path: Open %v, Delay %d, want true, 9", n.Open(0, 1), n.Delay(0, 1))
	}
}

func TestSplit(t *testing.T) {
	n := made(t, 4, 5)
	post(t, n, 0, 3, "stays", 1)
	do(t, n, api.Event{Kind: api.EvCut, A: 0, B: 1})
	do(t, n, api.Event{Kind: api.EvDelay, A: 2, B: 0, N: 4})
	crash(t, n, 2)
	for _, sides := range [][]int{{0, 0, 7, 7}, {1, 2, 3, 4}, {15, 0, 15, 0}, {5, 5, 5, 5}} {
		want := look(n)
		for p := range 4 {
			for q := range 4 {
				want.open[p][q] = p != q && sides[p] == sides[q]
			}
		}
		do(t, n, api.Event{Kind: api.EvSplit, Sides: sides, A: 99, B: -1, N: 99})
		if got := look(n); !sameSeen(got, want) {
			t.Errorf("P3.11: split %v: %v, want %v", sides, got, want)
		}
	}
}

func TestSplitRefused(t *testing.T) {
	n := made(t, 3, 5)
	do(t, n, api.Event{Kind: api.EvSplit, Sides: []int{0, 0, 7}})
	for _, sides := range [][]int{
		nil, {}, {1}, {1, 2}, {1, 2, 3, 4}, {0, 0, 0, -1},
		{-1, 0, 0}, {0, -1, 0}, {0, 0, -1},
		{16, 0, 0}, {0, 16, 0}, {0, 0, 16},
		{0, 0, math.MaxInt}, {0, 0, math.MinInt}, make([]int, 1000),
	} {
		refusedDo(t, n, api.Event{Kind: api.EvSplit, Sides: sides}, api.ErrArg)
	}
}

func TestSplitOfOne(t *testing.T) {
	n := made(t, 1, 5)
	do(t, n, api.Event{Kind: api.EvSplit, Sides: []int{3}})
	refusedDo(t, n, api.Event{Kind: api.EvSplit, Sides: []int{16}}, api.ErrArg)
}

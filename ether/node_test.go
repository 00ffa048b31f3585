package ether_test

import (
	"math"
	"testing"

	"quorate/api"
	"quorate/ether"
)

func TestNew(t *testing.T) {
	for _, c := range []struct {
		nodes, room int
		want        api.Errno
	}{
		{1, 1, api.OK},
		{1, api.MaxRoom, api.OK},
		{api.MaxNodes, 1, api.OK},
		{api.MaxNodes, api.MaxRoom, api.OK},
		{0, 5, api.ErrArg},
		{-1, 5, api.ErrArg},
		{math.MinInt, 5, api.ErrArg},
		{api.MaxNodes + 1, 5, api.ErrArg},
		{math.MaxInt, 5, api.ErrArg},
		{3, 0, api.ErrArg},
		{3, -1, api.ErrArg},
		{3, math.MinInt, api.ErrArg},
		{3, api.MaxRoom + 1, api.ErrArg},
		{3, math.MaxInt, api.ErrArg},
		{0, 0, api.ErrArg},
	} {
		n, e := ether.New(c.nodes, c.room)
		if e != c.want || (n != nil) != (c.want == api.OK) {
			t.Errorf("P3.1: New(%d, %d) = %v, error %d, want %d", c.nodes, c.room, n, e, c.want)
		}
	}
}

func TestFirst(t *testing.T) {
	for nodes := 1; nodes <= api.MaxNodes; nodes++ {
		n := made(t, nodes, 3)
		var want seen
		for p := range nodes {
			want.up[p], want.inc[p] = true, 1
			for q := range nodes {
				if p != q {
					want.open[p][q], want.delay[p][q] = true, 1
				}
			}
		}
		if got := look(n); !sameSeen(got, want) {
			t.Errorf("P3.1: a new network of %d: %v, want %v", nodes, got, want)
		}
	}
}

func TestNoNode(t *testing.T) {
	for _, nodes := range []int{1, 3, api.MaxNodes} {
		n := made(t, nodes, 3)
		for _, p := range append(farNumbers(), nodes) {
			if n.Up(p) || n.Inc(p) != 0 || n.Ticks(p) != 0 {
				t.Errorf("P3.2: node %d of %d: Up %v, Inc %d, Ticks %d", p, nodes, n.Up(p), n.Inc(p), n.Ticks(p))
			}
			refused(t, n, "P3.3: Tick of no node", api.ErrArg, func() api.Errno { return tickError(t, n, p) })
			refused(t, n, "P3.4: Crash of no node", api.ErrArg, func() api.Errno { return n.Crash(p) })
			refused(t, n, "P3.5: Restart of no node", api.ErrArg, func() api.Errno { return restartError(t, n, p) })
		}
	}
}

func tickError(t *testing.T, n *ether.Net, p int) api.Errno {
	ticks, e := n.Tick(p)
	if ticks != 0 {
		t.Errorf("P3.3: Tick(%d) = %d beside the error %d", p, ticks, e)
	}
	return e
}

func restartError(t *testing.T, n *ether.Net, p int) api.Errno {
	inc, e := n.Restart(p)
	if inc != 0 {
		t.Errorf("P3.5: Restart(%d) = %d beside the error %d", p, inc, e)
	}
	return e
}

func TestTick(t *testing.T) {
	n := made(t, 3, 3)
	for want := 1; want <= 5; want++ {
		before := look(n)
		if got, e := n.Tick(2); got != want || e != api.OK {
			t.Errorf("P3.3: Tick(2) = %d, error %d, want %d", got, e, want)
		}
		before.ticks[2] = want
		if got := look(n); !sameSeen(got, before) {
			t.Errorf("P3.3: a tick changed more than the ticks: %v, want %v", got, before)
		}
	}
}

func TestCrashAndRestart(t *testing.T) {
	n := made(t, 3, 3)
	post(t, n, 0, 1, "to it", 1)
	post(t, n, 1, 2, "from it", 2)
	for inc := 1; inc <= 4; inc++ {
		for range inc {
			n.Tick(1)
		}
		before := look(n)
		refused(t, n, "P3.5: Restart of a node that is up", api.ErrUp, func() api.Errno { return restartError(t, n, 1) })
		crash(t, n, 1)
		before.up[1] = false
		if got := look(n); !sameSeen(got, before) {
			t.Errorf("P3.4: behind the crash %v, want %v", got, before)
		}
		refused(t, n, "P3.3: Tick of a node that is down", api.ErrDown, func() api.Errno { return tickError(t, n, 1) })
		refused(t, n, "P3.4: Crash of a node that is down", api.ErrDown, func() api.Errno { return n.Crash(1) })
		restart(t, n, 1, inc+1)
		before.up[1], before.inc[1], before.ticks[1] = true, inc+1, 0
		if got := look(n); !sameSeen(got, before) {
			t.Errorf("P3.5: behind the restart %v, want %v", got, before)
		}
	}
}

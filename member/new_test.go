package member_test

import (
	"math"
	"testing"

	"quorate/api"
	"quorate/member"
)

func TestNewTakes(t *testing.T) {
	for _, c := range [][4]int{
		{1, 0, 1, 0}, {2, 0, 1, 0}, {2, 1, 1, 0}, {16, 0, 1, 0}, {16, 15, 1, 0}, {3, 1, api.MaxCount, 0},
		{3, 2, 5, 1}, {3, 2, 5, api.MaxCount - 1}, {3, 2, 5, api.MaxCount - 2}, {16, 15, api.MaxCount, api.MaxCount - 1},
	} {
		nodes, self, inc, floor := c[0], c[1], c[2], c[3]
		a := made(t, nodes, self, inc, floor)
		want := prop(make([]int, nodes), floor+1, 1, floor, none, make([]int, nodes)...)
		want.Set[self], want.Vec[self] = inc, floor+1
		alone := view(id(floor+1, self, inc, floor+1), self, inc, floor+1)
		wantProposal(t, a, want)
		wantStand(t, a, api.View{}, true)
		wantAgreed(t, a, alone, self)
		wantInstall(t, a, alone, self)
		wantProposal(t, a, want)
	}
}

func wantNoAgent(t *testing.T, want api.Errno, nodes, self, inc, floor int) {
	t.Helper()
	if a, e := member.New(nodes, self, inc, floor); a != nil || e != want {
		t.Errorf("P6.1: New(%d, %d, %d, %d) = %v, error %d, want nil, error %d", nodes, self, inc, floor, a, e, want)
	}
}

func TestNewRefuses(t *testing.T) {
	good := [4]int{2, 0, 1, 3}
	bad := [4][]int{
		{0, -1, 17, math.MinInt, math.MaxInt},
		{-1, 2, 16, math.MinInt, math.MaxInt},
		{0, -1, api.MaxCount + 1, math.MinInt, math.MaxInt},
		{-1, api.MaxCount + 1, math.MinInt, math.MaxInt},
	}
	for k, list := range bad {
		for _, v := range list {
			c := good
			c[k] = v
			wantNoAgent(t, api.ErrArg, c[0], c[1], c[2], c[3])
			for j := range bad {
				both := c
				both[j] = bad[j][0]
				wantNoAgent(t, api.ErrArg, both[0], both[1], both[2], both[3])
			}
			if k < 3 { // ErrArg goes ahead of ErrSpent
				wantNoAgent(t, api.ErrArg, c[0], c[1], c[2], api.MaxCount)
			}
		}
	}
	wantNoAgent(t, api.ErrArg, 1, 1, 1, 0)
	wantNoAgent(t, api.ErrArg, 16, 16, 1, 0)
	for nodes := 1; nodes <= api.MaxNodes; nodes++ {
		for self := range nodes {
			wantNoAgent(t, api.ErrSpent, nodes, self, 1, api.MaxCount)
			wantNoAgent(t, api.ErrSpent, nodes, self, api.MaxCount, api.MaxCount)
		}
	}
}

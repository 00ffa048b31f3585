package order_test

import (
	"slices"
	"testing"

	"quorate/api"
	"quorate/order"
)

func wantNone(t *testing.T, v api.View, self, window int, want api.Errno) {
	t.Helper()
	if o, e := order.New(v, self, window); o != nil || e != want {
		t.Errorf("O1: New(%v, %d, %d) = %v, error %d, want nil, error %d", v, self, window, o, e, want)
	}
}

func TestNewBegins(t *testing.T) {
	all := make([]int, api.MaxNodes)
	for p := range all {
		all[p] = p
	}
	for _, pids := range [][]int{{0}, {15}, {0, 2, 5}, {14, 15}, all} {
		for _, self := range pids {
			for _, window := range []int{1, 5, api.MaxWindow} {
				o := made(t, view(pids...), self, window)
				wantStand(t, o, stand{free: window})
				wantSeen(t, o, self)
				wantContent(t, o, 0, nil)
				wantMessages(t, o)
				if o.Frozen() {
					t.Error("O1: a new Order is frozen")
				}
				wantDeliver(t, o, 9, "")
				wantAssign(t, o, 9)
			}
		}
	}
}

func TestNewWindow(t *testing.T) {
	for _, window := range append(far(), 0, api.MaxWindow+1, api.MaxCount) {
		wantNone(t, view(0, 2, 5), 2, window, api.ErrArg)
		wantNone(t, view(), 7, window, api.ErrArg)
		wantNone(t, api.View{}, -1, window, api.ErrArg)
	}
}

func TestNewSelf(t *testing.T) {
	for _, self := range append(far(), 1, 3, 4, 6, 15, 16) {
		wantNone(t, view(0, 2, 5), self, 2, api.ErrView)
	}
	wantNone(t, view(), 0, 1, api.ErrView)
}

// TestNewID: each of the four numbers has its bounds; which node leads is not looked at.
func TestNewID(t *testing.T) {
	good := func(id api.ViewID) { v := view(0, 2); v.ID = id; made(t, v, 2, 1) }
	bad := func(id api.ViewID) { v := view(0, 2); v.ID = id; wantNone(t, v, 2, 1, api.ErrView) }
	for _, n := range []int{1, api.MaxCount} {
		good(api.ViewID{Epoch: n, Lead: 9, Inc: 1, Cid: 1})
		good(api.ViewID{Epoch: 1, Lead: 0, Inc: n, Cid: 1})
		good(api.ViewID{Epoch: 1, Lead: 15, Inc: 1, Cid: n})
	}
	for _, n := range append(far(), 0) {
		bad(api.ViewID{Epoch: n, Lead: 0, Inc: 1, Cid: 1})
		bad(api.ViewID{Epoch: 1, Lead: 0, Inc: n, Cid: 1})
		bad(api.ViewID{Epoch: 1, Lead: 0, Inc: 1, Cid: n})
	}
	for _, n := range append(far(), 16) {
		bad(api.ViewID{Epoch: 1, Lead: n, Inc: 1, Cid: 1})
	}
	bad(api.ViewID{})
}

func TestNewMembers(t *testing.T) {
	for _, pids := range [][]int{{2, 0}, {0, 0}, {0, 2, 2}, {0, 5, 2}, {0, 16}, {-1, 0}, {0, 2, 15, 16}, {0, 0, 2}} {
		wantNone(t, view(pids...), 0, 1, api.ErrView)
	}
	for _, p := range far() {
		wantNone(t, view(p), p, 1, api.ErrView)
		wantNone(t, view(0, p), 0, 1, api.ErrView)
	}
	seventeen := slices.Repeat([]api.Member{{Pid: 3, Inc: 1, Cid: 1}}, 17)
	wantNone(t, api.View{ID: viewID, Members: seventeen}, 3, 1, api.ErrView)
	for at := range 3 {
		for _, n := range append(far(), 0, 1, api.MaxCount) {
			inc, cid := view(0, 2, 5), view(0, 2, 5)
			inc.Members[at].Inc, cid.Members[at].Cid = n, n
			if n == 1 || n == api.MaxCount {
				made(t, inc, 2, 1)
				made(t, cid, 2, 1)
				continue
			}
			wantNone(t, inc, 2, 1, api.ErrView)
			wantNone(t, cid, 2, 1, api.ErrView)
		}
	}
}

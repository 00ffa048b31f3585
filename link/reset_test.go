package link_test

import (
	"math"
	"testing"

	"quorate/api"
	"quorate/link"
)

func TestNewTakes(t *testing.T) {
	for _, c := range [][4]int{
		{1, 0, 1, 1}, {2, 0, 1, 1}, {2, 1, 1, 1}, {16, 0, 1, 1}, {16, 15, 1, 1},
		{3, 1, 1, 20000}, {3, 1, 20000, 20000}, {3, 1, 19999, 20000}, {3, 1, 9, 9}, {3, 1, 8, 9},
	} {
		m := made(t, c[0], c[1], c[2], c[3])
		if m.Tag() != (api.ViewID{}) {
			t.Errorf("L1: New%v: the tag is %v, want none", c, m.Tag())
		}
		for p := -1; p <= api.MaxNodes; p++ {
			wantStranger(t, m, p)
		}
	}
}

func TestNewRefuses(t *testing.T) {
	for _, c := range [][4]int{
		{0, 0, 1, 1}, {-1, 0, 1, 1}, {17, 0, 1, 1}, {math.MinInt, 0, 1, 1}, {math.MaxInt, 0, 1, 1},
		{0, -1, 1, 1}, {2, -1, 1, 1}, {2, 2, 1, 1}, {1, 1, 1, 1}, {16, 16, 1, 1}, {2, math.MinInt, 1, 1}, {2, math.MaxInt, 1, 1},
		{2, 0, 1, 0}, {2, 0, 0, 0}, {2, 0, 1, -1}, {2, 0, -1, -1}, {2, 0, 1, 20001}, {2, 0, 1, math.MinInt}, {2, 0, 1, math.MaxInt},
		{2, 0, 0, 1}, {2, 0, -1, 1}, {2, 0, 2, 1}, {2, 0, 10, 9}, {2, 0, 20001, 20000}, {2, 0, 20001, 20001},
		{2, 0, math.MinInt, 5}, {2, 0, math.MaxInt, 5},
	} {
		if m, e := link.New(c[0], c[1], c[2], c[3]); m != nil || e != api.ErrArg {
			t.Errorf("L1: New%v = %v, error %d, want nil, ErrArg", c, m, e)
		}
	}
}

// wantStranger: what is answered for a number that is no peer's, with arguments good and bad.
func wantStranger(t *testing.T, m *link.Mux, p int) {
	t.Helper()
	for _, body := range [][]byte{{1}, nil, make([]byte, api.MaxItem+1)} {
		if e := m.Push(p, body); e != api.ErrPeer {
			t.Errorf("L2: Push(%d, %d bytes): error %d, want ErrPeer", p, len(body), e)
		}
		for _, seq := range []int{1, 0, api.MaxCount} {
			for _, tag := range []api.ViewID{tagT, tagU} {
				if l, e := m.Take(p, api.Frame{Tag: tag, Seq: seq, Body: body}); l != nil || e != api.ErrPeer {
					t.Errorf("L2: Take(%d, %d, %d bytes) = %v, error %d, want ErrPeer", p, seq, len(body), l, e)
				}
			}
		}
	}
	for _, upto := range []int{0, 1, -1, api.MaxCount, api.MaxCount + 1} {
		for _, tag := range []api.ViewID{{}, tagT, tagU} {
			if e := m.Acked(p, api.Ack{Tag: tag, Upto: upto}); e != api.ErrPeer {
				t.Errorf("L2: Acked(%d, %d): error %d, want ErrPeer", p, upto, e)
			}
		}
	}
	if got := look(m, p); got.numbers != (numbers{}) || len(got.frames) != 0 {
		t.Errorf("L2: of %d, which is no peer, it tells %v", p, got)
	}
	if a, ok := m.Owed(p); a != (api.Ack{}) || ok {
		t.Errorf("L2: Owed(%d) = %v, %v, want none", p, a, ok)
	}
}

func TestStrangers(t *testing.T) {
	wantUnchanged(t, "L2: calls with numbers that are no peers'", func(m *link.Mux) {
		for _, p := range strangers() {
			wantStranger(t, m, p)
		}
	})
}

func TestResetTakes(t *testing.T) {
	greatest := api.ViewID{Epoch: api.MaxCount, Lead: api.MaxNodes - 1, Inc: api.MaxCount, Cid: api.MaxCount}
	for _, tag := range []api.ViewID{tagT, tagU, greatest} {
		for _, peers := range [][]int{nil, {}, {0}, {4}, {3, 4}, {0, 1, 3, 4}, {0, 4}} {
			m := made(t, 5, 2, 2, 3)
			if e := m.Reset(tag, peers); e != api.OK || m.Tag() != tag {
				t.Errorf("L2: Reset(%v, %v): error %d, tag %v", tag, peers, e, m.Tag())
			}
			isPeer := map[int]bool{}
			for _, p := range peers {
				isPeer[p] = true
				wantNumbers(t, m, p, numbers{room: 3})
				wantFrames(t, m, p)
				wantOwed(t, m, p, api.Ack{}, false)
			}
			for p := -1; p <= 5; p++ {
				if !isPeer[p] {
					wantStranger(t, m, p)
				}
			}
		}
	}
}

// badTags are not whole by one number each.
func badTags() []api.ViewID {
	list := []api.ViewID{{}}
	for _, c := range []struct {
		at  func(id *api.ViewID) *int
		bad []int
	}{
		{func(id *api.ViewID) *int { return &id.Epoch }, []int{0, -1, api.MaxCount + 1, math.MinInt, math.MaxInt}},
		{func(id *api.ViewID) *int { return &id.Lead }, []int{-1, api.MaxNodes, math.MinInt, math.MaxInt}},
		{func(id *api.ViewID) *int { return &id.Inc }, []int{0, -1, api.MaxCount + 1, math.MinInt, math.MaxInt}},
		{func(id *api.ViewID) *int { return &id.Cid }, []int{0, -1, api.MaxCount + 1, math.MinInt, math.MaxInt}},
	} {
		for _, v := range c.bad {
			id := tagU
			*c.at(&id) = v
			list = append(list, id)
		}
	}
	return list
}

func TestResetRefuses(t *testing.T) {
	badPeers := [][]int{
		{2}, {0, 2}, {2, 3}, {0, 2, 3}, {0, 0}, {3, 3}, {3, 0}, {0, 3, 1}, {4}, {0, 4}, {-1}, {-1, 0}, {0, -1},
		{math.MinInt}, {math.MaxInt}, {math.MaxInt, math.MinInt}, {0, math.MaxInt, 3}, make([]int, 40),
	}
	wantUnchanged(t, "L2: a Reset that was refused", func(m *link.Mux) {
		for _, tag := range badTags() {
			for _, peers := range append([][]int{nil, {0}, {0, 1, 3}}, badPeers...) {
				if e := m.Reset(tag, peers); e != api.ErrTag {
					t.Errorf("L2: Reset(%v, %v): error %d, want ErrTag", tag, peers, e)
				}
			}
		}
		for _, tag := range []api.ViewID{tagT, tagU} {
			for _, peers := range badPeers {
				if e := m.Reset(tag, peers); e != api.ErrArg {
					t.Errorf("L2: Reset(%v, %v): error %d, want ErrArg", tag, peers, e)
				}
			}
		}
	})
}

// TestResetOfOneNode: a node that is alone has no peers at all.
func TestResetOfOneNode(t *testing.T) {
	m := made(t, 1, 0, 1, 1)
	if e := m.Reset(tagT, []int{0}); e != api.ErrArg || m.Tag() != (api.ViewID{}) {
		t.Errorf("L2: Reset(.., [0]) of one node: error %d, tag %v", e, m.Tag())
	}
	reset(t, m, tagT)
}

// TestResetForgets: behind a Reset a Mux is as one that was made and reset so, also with the same tag and peers.
func TestResetForgets(t *testing.T) {
	for _, tag := range []api.ViewID{tagT, tagU} {
		for _, peers := range [][]int{nil, {0}, {0, 3}, {0, 1, 3}, {1}} {
			used, fresh := busy(t), made(t, 4, 2, 3, 5)
			reset(t, used, tag, peers...)
			reset(t, fresh, tag, peers...)
			wantSame(t, "L2: Reset", 3, used, fresh)
		}
	}
}

package member

import (
	"reflect"
	"slices"
	"testing"

	"quorate/api"
)

// lastRev is an agent whose Rev is MaxCount, which no number of calls reaches: changing, or in a view with node 1.
func lastRev(changing bool) *Agent {
	a, _ := New(3, 0, 1, 0)
	a.Estimate([]int{1, 5, 0})
	if !changing {
		a.Take(1, 5, api.Propose{Set: []int{1, 5, 0}, Cid: 1, Rev: 1, Vec: []int{2, 1, 0}})
		a.Install()
	}
	a.own.rev = api.MaxCount
	return a
}

func kept(a *Agent) Agent {
	c := *a
	c.view.Members = slices.Clone(c.view.Members)
	return c
}

func wantTaken(t *testing.T, a *Agent, q int, p api.Propose, want api.Errno) {
	t.Helper()
	before := kept(a)
	begun, e := a.Take(q, 5, p)
	if begun || e != want {
		t.Errorf("P6.3: at the last Rev: Take(%d, %v) = %v, error %d, want false, error %d", q, p, begun, e, want)
	}
	if want != api.OK && !reflect.DeepEqual(before, *a) {
		t.Errorf("6.2: an error changed the agent: %v, was %v", *a, before)
	}
	if a.own != before.own {
		t.Errorf("P6.3: at the last Rev the own proposal is %v, was %v", a.own, before.own)
	}
}

// TestRevSpent: what would have to make Rev greater is refused, and changes nothing; what would not is taken.
func TestRevSpent(t *testing.T) {
	for _, changing := range []bool{true, false} {
		a := lastRev(changing)
		before := kept(a)
		if begun, e := a.Estimate([]int{1, 6, 0}); begun || e != api.ErrSpent || !reflect.DeepEqual(before, *a) {
			t.Errorf("P6.2: at the last Rev: %v, error %d, the agent %v, was %v", begun, e, *a, before)
		}
		if begun, e := a.Estimate([]int{1, 5, 0}); begun || e != api.OK {
			t.Errorf("P6.2: the own Set at the last Rev: %v, error %d", begun, e)
		}
		leaving := api.Propose{Set: []int{1, 5, 0}, Cid: 2, Rev: 8, Vec: []int{2, 2, 0}}
		wantTaken(t, a, 1, leaving, api.ErrSpent)
		wantTaken(t, a, 1, leaving, api.ErrSpent)
		wantTaken(t, a, 2, api.Propose{Set: []int{1, 5, 5}, Cid: 2, Rev: 8, Vec: []int{2, 1, 2}}, api.OK)
		wantTaken(t, a, 1, api.Propose{Set: []int{1, 5, 5}, Cid: 1, Rev: 7, Vec: []int{2, 1, 0}}, api.OK)
		if a.changing != changing {
			t.Errorf("P6.3: at the last Rev: changing %v, want %v", a.changing, changing)
		}
	}
}

// TestOneBelowTheLastRev: it is reached.
func TestOneBelowTheLastRev(t *testing.T) {
	a := lastRev(true)
	a.own.rev--
	if begun, e := a.Estimate([]int{1, 6, 0}); !begun || e != api.OK || a.Proposal().Rev != api.MaxCount {
		t.Errorf("6.2: Estimate one below the last Rev: %v, error %d, Rev %d", begun, e, a.Proposal().Rev)
	}
	b := lastRev(true)
	b.own.rev--
	p := api.Propose{Set: []int{1, 5, 0}, Cid: 2, Rev: 8, Vec: []int{2, 2, 0}}
	if _, e := b.Take(1, 5, p); e != api.OK || b.Proposal().Rev != api.MaxCount {
		t.Errorf("6.2: Take one below the last Rev: error %d, Rev %d", e, b.Proposal().Rev)
	}
	if v, _, e := b.Install(); e != api.OK || len(v.Members) != 2 {
		t.Errorf("P6.6: at the last Rev: %v, error %d", v, e)
	}
}

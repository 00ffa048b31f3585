package quorum_test

import (
	"math/rand"
	"slices"
	"testing"

	"quorate/api"
)

// model is a watch in the chapter's own words: it keeps all views that were entered.
type model struct {
	votes []int
	views []api.View
}

func (m *model) isView(v api.View) bool {
	if len(v.Members) < 1 || len(v.Members) > len(m.votes) {
		return false
	}
	isCount := func(n int) bool { return n >= 1 && n <= api.MaxCount }
	for _, x := range v.Members {
		if !isCount(x.Inc) || !isCount(x.Cid) {
			return false
		}
	}
	first := v.Members[0]
	return isSet(m.votes, pidsOf(v)) && isCount(v.ID.Epoch) && v.ID.Lead == first.Pid && v.ID.Inc == first.Inc && v.ID.Cid == first.Cid
}

func pidsOf(v api.View) []int {
	var l []int
	for _, x := range v.Members {
		l = append(l, x.Pid)
	}
	return l
}

func (m *model) enter(v api.View) (bool, api.Errno) {
	if !m.isView(v) {
		return false, api.ErrView
	}
	if len(m.views) > 0 && v.ID.Epoch <= m.lastEpoch() {
		return false, api.ErrOrder
	}
	m.views = append(m.views, v)
	return isQuorate(m.votes, pidsOf(v)), api.OK
}

func (m *model) lastEpoch() int {
	if len(m.views) == 0 {
		return 0
	}
	return m.views[len(m.views)-1].ID.Epoch
}

func (m *model) tells() told {
	var s told
	for _, v := range m.views {
		s.in = isQuorate(m.votes, pidsOf(v))
		s.entered++
		if s.in {
			s.quorates++
			s.last = v.ID
		}
	}
	return s
}

// wildView draws one that often can be entered, and is often wrong in one number.
func wildView(r *rand.Rand, nodes, epoch int) api.View {
	v := viewOf(epoch+r.Intn(4)-1, drawnSet(r, nodes)...)
	for k := range v.Members {
		v.Members[k].Inc, v.Members[k].Cid = 1+r.Intn(3), 1+r.Intn(3)
	}
	v = view(v.ID.Epoch, v.Members...)
	m := &v.Members[r.Intn(len(v.Members))]
	number := []*int{&v.ID.Epoch, &v.ID.Lead, &v.ID.Inc, &v.ID.Cid, &m.Pid, &m.Inc, &m.Cid}[r.Intn(7)]
	switch r.Intn(12) {
	case 0:
		*number += r.Intn(5) - 2
	case 1:
		*number = far()[r.Intn(len(far()))]
	case 2:
		r.Shuffle(len(v.Members), func(i, k int) { v.Members[i], v.Members[k] = v.Members[k], v.Members[i] })
	case 3:
		v.Members = without(v.Members, r.Intn(len(v.Members)))
	case 4:
		v.Members = append(v.Members, api.Member{Pid: r.Intn(nodes + 2), Inc: r.Intn(3), Cid: 1})
	case 5:
		v.ID = api.ViewID{}
	}
	return v
}

// TestModel holds watches against the model.
func TestModel(t *testing.T) {
	var seen [4]int // no view, no order, not quorate, quorate
	for seed := range 400 {
		r := rand.New(rand.NewSource(int64(seed)))
		votes := randomVotes(r, 1+r.Intn(api.MaxNodes))
		w, m := made(t, votes...), &model{votes: votes}
		for range 150 {
			v := wildView(r, len(votes), 1+m.lastEpoch())
			want, wantE := m.enter(v)
			if ok, e := w.Enter(v); ok != want || e != wantE {
				t.Fatalf("Q9: of %v: Enter(%v) = %v, error %d, want %v, error %d", votes, v, ok, e, want, wantE)
			}
			wantTold(t, w, m.tells())
			seen[slices.Index([]bool{wantE == api.ErrView, wantE == api.ErrOrder, !want, true}, true)]++
			if wantE == api.OK && v.ID.Epoch > 1<<30 {
				w, m = made(t, votes...), &model{votes: votes} // hardly any epoch would be left
			}
		}
	}
	for k, n := range seen {
		if n < 3000 {
			t.Errorf("the test is too weak: %d answers of kind %d", n, k)
		}
	}
}

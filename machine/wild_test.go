package machine_test

import (
	"math/rand"
	"testing"

	"quorate/api"
	"quorate/machine"
)

// TestWild: P1 and M4 to M8: drawn commands, wrong ones among them, against the chapter's words; every answer there is comes up.
func TestWild(t *testing.T) {
	seen := map[[2]int]int{} // by operation and code
	anew := 0
	for seed := range 60 {
		r := rand.New(rand.NewSource(int64(seed)))
		m, w := machine.New(), newModel()
		if seed%4 == 3 { // the tokens run out on the way
			w = near(r.Intn(40))
			m = restore(t, w)
		}
		for n := range 500 {
			c := drawn(r, w)
			if r.Intn(12) == 0 {
				c = spoilt(r, c)
			}
			s, known := w.sessions[c.Client]
			if known && s.Inc < c.Inc && isCommand(c) {
				anew++
			}
			x := both(t, m, w, c)
			if isCommand(c) {
				seen[[2]int{c.Op, x.Code}]++
			} else {
				seen[[2]int{0, x.Code}]++
			}
			if n%10 == 0 {
				wantState(t, m, w)
			}
			if !w.isState() {
				t.Fatalf("the test is wrong: a state that is not valid behind %#v", c)
			}
		}
	}
	for op, codes := range [][]int{
		{api.ResBad},
		{api.ResDone, api.ResFull, api.ResStale},
		{api.ResDone, api.ResNone, api.ResStale},
		{api.ResDone, api.ResNone, api.ResDiffer, api.ResStale},
		{api.ResDone, api.ResNone, api.ResStale},
		{api.ResDone, api.ResFull, api.ResNumber, api.ResOver, api.ResStale},
		{api.ResDone, api.ResQueued, api.ResFull, api.ResSpent, api.ResStale},
		{api.ResDone, api.ResLeft, api.ResNone, api.ResStale},
		{api.ResDone, api.ResNone, api.ResStale},
		{api.ResDone, api.ResNone, api.ResStale},
	} {
		for _, code := range codes {
			if seen[[2]int{op, code}] < 20 {
				t.Errorf("the test is too weak: operation %d answers %d %d times", op, code, seen[[2]int{op, code}])
			}
		}
	}
	if anew < 300 {
		t.Errorf("the test is too weak: %d clients have come anew", anew)
	}
}

// TestWildStates: P1 and M9: drawn commands on whatever valid state is restored.
func TestWildStates(t *testing.T) {
	r := rand.New(rand.NewSource(6))
	for range 300 {
		w := drawnState(r)
		if !w.isState() {
			t.Fatal("the test is wrong: a state that is not valid")
		}
		m := restore(t, w)
		wantState(t, m, w)
		for range 30 {
			both(t, m, w, drawn(r, w))
		}
		wantState(t, m, w)
	}
}

// drawnState is a valid one, also such as no commands lead to.
func drawnState(r *rand.Rand) *model {
	w := newModel()
	for p := range 16 {
		if r.Intn(3) > 0 {
			x := result(pick(r, []int{1, 2, 3, 4, 5, 6, 7, 8, 9, 11}), pick(r, values()), r.Intn(api.MaxToken+1))
			w.sessions[p] = api.Session{Inc: 1 + r.Intn(3), Req: 1 + r.Intn(300), Last: x}
		}
	}
	clients := w.clients()
	w.tokens = pick(r, []int{8, 20, 300, api.MaxToken - 9, api.MaxToken - 1, api.MaxToken})
	tokens := r.Perm(8)
	for i, at := range r.Perm(10)[:r.Intn(9)] {
		if len(clients) == 0 {
			break
		}
		l := held{name: names()[at], token: w.tokens - tokens[i]}
		for k, q := range r.Perm(len(clients))[:1+r.Intn(len(clients))] {
			if k == 0 {
				l.client = clients[q]
			} else {
				l.queue = append(l.queue, clients[q])
			}
		}
		w.locks = append(w.locks, l)
	}
	for _, at := range r.Perm(len(names()))[:r.Intn(17)] {
		w.pairs = append(w.pairs, api.Pair{Key: names()[at], Val: pick(r, values())})
	}
	w.sort()
	return w
}

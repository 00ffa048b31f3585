package machine_test

import (
	"bytes"
	"math/rand"
	"slices"
	"testing"

	"quorate/api"
	"quorate/machine"
)

// drawnRun is a list of commands, and what the model answers to each.
func drawnRun(seed int64, n int) ([]api.Command, []api.Result) {
	r := rand.New(rand.NewSource(seed))
	w := newModel()
	var l []api.Command
	var answers []api.Result
	for range n {
		c := drawn(r, w)
		if r.Intn(20) == 0 {
			c = spoilt(r, c)
		}
		l = append(l, c)
		answers = append(answers, w.apply(c))
	}
	return l, answers
}

// TestOnce: M10, the last command of each client again, and all its older ones, whatever came between.
func TestOnce(t *testing.T) {
	for seed := range 20 {
		l, _ := drawnRun(int64(100+seed), 300)
		m := machine.New()
		last := map[int]api.Command{}
		answers := map[int]api.Result{}
		var older []api.Command
		for _, c := range l {
			s, known := m.Session(c.Client)
			r := m.Apply(c)
			if isCommand(c) && (!known || s.Inc < c.Inc || s.Inc == c.Inc && s.Req < c.Req) {
				if known {
					older = append(older, last[c.Client])
				}
				last[c.Client], answers[c.Client] = c, r
			}
			before := m.Snapshot()
			for p, c := range last {
				if got := m.Apply(c); got != answers[p] {
					t.Fatalf("M10: %#v again answers %#v, it answered %#v", c, got, answers[p])
				}
			}
			for _, c := range older {
				if got := m.Apply(c); got != result(api.ResStale, "", 0) {
					t.Fatalf("M10: %#v, an older one, answers %#v", c, got)
				}
			}
			if !bytes.Equal(m.Snapshot(), before) {
				t.Fatal("M10: a command that was applied before changes the state")
			}
		}
		if len(last) < 5 || len(older) < 100 {
			t.Errorf("the test is too weak: %d clients, %d older commands", len(last), len(older))
		}
	}
}

// tokensOf are the tokens of all locks that are held, by name.
func tokensOf(t *testing.T, m *machine.Machine) map[string]api.Holder {
	t.Helper()
	l := map[string]api.Holder{}
	seen := map[int]int{}
	for _, name := range m.Locks() {
		h, ok := m.Holder(name)
		if !ok || seen[h.Token] > 0 {
			t.Fatalf("M11: the lock %q, which is held, has %+v, %v", name, h, ok)
		}
		seen[h.Token]++
		l[name] = h
	}
	return l
}

// TestRisingTokens: M11, each grant has a greater token than all ahead of it; who waits longer gets the lock first.
func TestRisingTokens(t *testing.T) {
	grants, fromQueue := 0, 0
	for seed := range 30 {
		l, _ := drawnRun(int64(200+seed), 600)
		m := machine.New()
		greatest := 0
		for _, c := range l {
			before := tokensOf(t, m)
			queues := map[string][]api.Waiter{}
			for name := range before {
				queues[name] = m.Waiting(name)
			}
			m.Apply(c)
			top := greatest
			for name, h := range tokensOf(t, m) {
				if h.Token == before[name].Token {
					if h != before[name] {
						t.Fatalf("M11: %q changes hands without a grant: %+v, %+v", name, before[name], h)
					}
					wantQueue(t, m, name, queues[name], c)
					continue
				}
				grants++
				if h.Token <= greatest {
					t.Fatalf("M11: %q is granted with the token %d behind %d", name, h.Token, greatest)
				}
				top = max(top, h.Token)
				if len(queues[name]) > 0 && h.Client != c.Client {
					fromQueue++
					wantFirst(t, h, queues[name], c)
				}
			}
			greatest = top
		}
	}
	if grants < 1000 || fromQueue < 200 {
		t.Errorf("the test is too weak: %d grants, %d of them from a queue", grants, fromQueue)
	}
}

// others are those of a queue whom a command does not concern: not the one who asks, nor the one who is ended.
func others(queue []api.Waiter, c api.Command) []api.Waiter {
	return slices.DeleteFunc(slices.Clone(queue), func(w api.Waiter) bool {
		return w.Client == c.Client || c.Op == api.OpEnd && w.Client == worth(c.Val)
	})
}

// wantFirst looks whether the new holder is the first who waited.
func wantFirst(t *testing.T, h api.Holder, before []api.Waiter, c api.Command) {
	t.Helper()
	queue := others(before, c)
	if len(queue) == 0 || queue[0] != (api.Waiter{Client: h.Client, Inc: h.Inc}) {
		t.Fatalf("M11: behind %#v the holder is %+v, there waited %+v", c, h, queue)
	}
}

// wantQueue looks whether a queue stands in its old order.
func wantQueue(t *testing.T, m *machine.Machine, name string, before []api.Waiter, c api.Command) {
	t.Helper()
	if now := others(m.Waiting(name), c); !slices.Equal(now, others(before, c)) {
		t.Fatalf("M11: behind %#v those who wait for %q are %+v, they were %+v", c, name, now, before)
	}
}

// TestSameState: M12, the same commands on two machines, and on one that is restored at every step on the way.
func TestSameState(t *testing.T) {
	for seed := range 15 {
		l, answers := drawnRun(int64(300+seed), 300)
		a, b, again := machine.New(), machine.New(), machine.New()
		for i, c := range l {
			if a.Apply(c) != answers[i] || b.Apply(c) != answers[i] || again.Apply(c) != answers[i] {
				t.Fatalf("M12: %#v is answered otherwise", c)
			}
			var e api.Errno
			before := again.Snapshot()
			if again, e = machine.Restore(before); e != api.OK {
				t.Fatalf("M12: Restore of a snapshot: error %d", e)
			}
			if len(before) > 1070 || !bytes.Equal(a.Snapshot(), b.Snapshot()) || !bytes.Equal(a.Snapshot(), again.Snapshot()) {
				t.Fatalf("M12: behind %#v the snapshots differ", c)
			}
		}
	}
}

// TestSnapshotInTheMiddle: M9 and M12, what is restored in the middle answers as the one that went on.
func TestSnapshotInTheMiddle(t *testing.T) {
	l, answers := drawnRun(400, 200)
	m := machine.New()
	for i := range l {
		n, e := machine.Restore(m.Snapshot())
		if e != api.OK {
			t.Fatalf("M9: error %d", e)
		}
		for k, c := range l[i:] {
			if got := n.Apply(c); got != answers[i+k] {
				t.Fatalf("M12: restored at %d, %#v answers %#v, want %#v", i, c, got, answers[i+k])
			}
		}
		m.Apply(l[i])
	}
}

// TestThereAndBack: P16, commands and snapshots.
func TestThereAndBack(t *testing.T) {
	l, _ := drawnRun(500, 3000)
	w := newModel()
	for _, c := range l {
		wantCommand(t, c)
		w.apply(c)
		if b := w.snapshot(); !bytes.Equal(restore(t, w).Snapshot(), b) {
			t.Fatalf("M9: % x does not come back", b)
		}
	}
}

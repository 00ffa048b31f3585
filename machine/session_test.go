package machine_test

import (
	"bytes"
	"math/rand"
	"testing"

	"quorate/api"
	"quorate/machine"
)

// TestNew: M3.
func TestNew(t *testing.T) {
	m := machine.New()
	if m == nil {
		t.Fatal("M3: New answers no machine")
	}
	wantState(t, m, newModel())
	want(t, m, cmd(0, 1, 1, api.OpLock, "L"), api.ResDone, "", 1)
}

// TestOrderOfRequests: M4, points 2 to 4, with incarnations and numbers below, at and above the session's.
func TestOrderOfRequests(t *testing.T) {
	edges := []int{1, 2, 3, 1 << 32, api.MaxCount - 1, api.MaxCount}
	for _, inc := range edges {
		for _, req := range edges {
			for _, inc2 := range edges {
				for _, req2 := range edges {
					m, w := machine.New(), newModel()
					both(t, m, w, cmd(1, inc, req, api.OpSet, "a", "first"))
					before := m.Snapshot()
					r := both(t, m, w, cmd(1, inc2, req2, api.OpSet, "a", "second"))
					switch {
					case inc2 < inc || inc2 == inc && req2 < req:
						wantAnswer(t, "M4: an older one", r, api.ResStale, "", 0)
					case inc2 == inc && req2 == req:
						wantAnswer(t, "M4: the same", r, api.ResDone, "", 0)
					default:
						wantAnswer(t, "M4: a newer one", r, api.ResDone, "first", 1)
						before = m.Snapshot()
					}
					if !bytes.Equal(m.Snapshot(), before) {
						t.Fatalf("M4: %d.%d behind %d.%d changes the state", inc2, req2, inc, req)
					}
					wantState(t, m, w)
				}
			}
		}
	}
}

// TestSameNumberOtherRequest: M4, point 3 looks at the numbers alone.
func TestSameNumberOtherRequest(t *testing.T) {
	m, w := machine.New(), newModel()
	for _, c := range samples() {
		c.Client, c.Inc, c.Req = 1, 1, w.sessions[1].Req+1
		r := both(t, m, w, c)
		for _, other := range samples() {
			other.Client, other.Inc, other.Req = c.Client, c.Inc, c.Req
			if got := both(t, m, w, other); got != r {
				t.Errorf("M4: the same number answers %#v, want %#v", got, r)
			}
		}
	}
}

// TestClientsApart: M4, a client's session has nothing to do with another's.
func TestClientsApart(t *testing.T) {
	m, w := machine.New(), newModel()
	for round := range 3 {
		for client := range 16 {
			both(t, m, w, cmd(client, 16-client, 1+round, api.OpAdd, "n", "1"))
		}
	}
	wantState(t, m, w)
	if v, _ := m.Get("n"); v != "48" {
		t.Errorf("M4: n is %q behind 48 additions", v)
	}
}

// TestBadChangesNothing: M4, point 1, also for one who has come anew, and ahead of points 2 and 3.
func TestBadChangesNothing(t *testing.T) {
	r := rand.New(rand.NewSource(4))
	w := near(5)
	m := restore(t, w)
	before := m.Snapshot()
	seen := 0
	for range 20000 {
		c := pick(r, samples())
		c.Client, c.Inc, c.Req = r.Intn(4), 1+r.Intn(3), 1+r.Intn(3)
		c = spoilt(r, c)
		if isCommand(c) {
			continue
		}
		seen++
		want(t, m, c, api.ResBad, "", 0)
	}
	if !bytes.Equal(m.Snapshot(), before) {
		t.Error("M4: what is no command changes the state")
	}
	if seen < 10000 {
		t.Errorf("the test is too weak: %d", seen)
	}
}

// TestComesAnew: M4, point 4: ahead of the operation it leaves all queues and its locks are passed on, by rising name.
func TestComesAnew(t *testing.T) {
	for _, c := range samples() {
		m, w := machine.New(), newModel()
		for _, name := range []string{"d", "a\xff", "L", "b", "a", "a\x00"} {
			by(t, m, w, 1, api.OpLock, name)
			by(t, m, w, 2, api.OpLock, name)
			by(t, m, w, 3, api.OpLock, name)
		}
		by(t, m, w, 2, api.OpLock, "z")
		by(t, m, w, 1, api.OpLock, "z")
		by(t, m, w, 3, api.OpLock, "z")
		by(t, m, w, 1, api.OpLock, "own")
		c.Client, c.Inc, c.Req = 1, 2, 1
		both(t, m, w, c)
		wantState(t, m, w)
		for i, name := range []string{"L", "a", "a\x00", "a\xff", "b", "d"} {
			if h, _ := m.Holder(name); h != (api.Holder{Client: 2, Inc: 1, Token: 9 + i}) {
				t.Errorf("M4: behind %#v, %q is held by %+v", c, name, h)
			}
		}
	}
}

// TestComesAnewFreesRoom: M4, what its coming anew frees is there for its own request.
func TestComesAnewFreesRoom(t *testing.T) {
	m, w := machine.New(), newModel()
	for _, name := range names()[:8] {
		by(t, m, w, 1, api.OpLock, name)
	}
	by(t, m, w, 2, api.OpLock, names()[0])
	by(t, m, w, 1, api.OpLock, "more")
	wantAnswer(t, "M4: there is room", both(t, m, w, cmd(1, 2, 1, api.OpLock, "more")), api.ResDone, "", 10)
	wantAnswer(t, "M4: behind the one who waited", both(t, m, w, cmd(1, 2, 2, api.OpLock, names()[0])), api.ResQueued, "", 1)
	wantAnswer(t, "M4: it holds nothing of its old ones", both(t, m, w, cmd(1, 2, 3, api.OpUnlock, names()[1])), api.ResNone, "", 0)
	wantState(t, m, w)
}

// TestHolderAnew: M4, one who comes anew and asks for the lock that it held gets it anew, or waits behind the others.
func TestHolderAnew(t *testing.T) {
	m, w := machine.New(), newModel()
	both(t, m, w, cmd(1, 1, 7, api.OpLock, "L"))
	wantAnswer(t, "M4: alone", both(t, m, w, cmd(1, 2, 1, api.OpLock, "L")), api.ResDone, "", 2)
	if h, _ := m.Holder("L"); h != (api.Holder{Client: 1, Inc: 2, Token: 2}) {
		t.Errorf("M7: held by %+v", h)
	}
	both(t, m, w, cmd(2, 5, 1, api.OpLock, "L"))
	wantAnswer(t, "M4: one waits", both(t, m, w, cmd(1, 3, 1, api.OpLock, "L")), api.ResQueued, "", 1)
	wantState(t, m, w)
	wantAnswer(t, "M4: the one who waits comes anew", both(t, m, w, cmd(1, 4, 1, api.OpLock, "L")), api.ResQueued, "", 1)
	if l := m.Waiting("L"); len(l) != 1 || l[0] != (api.Waiter{Client: 1, Inc: 4}) {
		t.Errorf("M7: Waiting %+v", l)
	}
	wantAnswer(t, "M4: its old request", both(t, m, w, cmd(1, 3, 9, api.OpUnlock, "L")), api.ResStale, "", 0)
	wantState(t, m, w)
}

// TestSameIncarnationKeeps: M4, a later request of the same incarnation leaves locks and queues alone.
func TestSameIncarnationKeeps(t *testing.T) {
	for _, c := range samples() {
		if c.Op == api.OpEnd || c.Op == api.OpUnlock {
			continue
		}
		m, w := machine.New(), newModel()
		by(t, m, w, 1, api.OpLock, "mine")
		by(t, m, w, 2, api.OpLock, "its")
		by(t, m, w, 1, api.OpLock, "its")
		by(t, m, w, 2, api.OpLock, "mine")
		c.Client, c.Inc, c.Req = 1, 1, 9
		both(t, m, w, c)
		if h, _ := m.Holder("mine"); h.Client != 1 || len(m.Waiting("its")) != 1 {
			t.Errorf("M4: behind %#v client 1 has lost what it had", c)
		}
	}
}

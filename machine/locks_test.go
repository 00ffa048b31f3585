package machine_test

import (
	"strconv"
	"testing"

	"quorate/api"
	"quorate/machine"
)

// by applies what a client asks for next under its present incarnation, and holds it against the chapter's words.
func by(t *testing.T, m *machine.Machine, w *model, client, op int, key string, texts ...string) api.Result {
	t.Helper()
	s := w.sessions[client]
	return both(t, m, w, cmd(client, max(s.Inc, 1), s.Req+1, op, key, texts...))
}

// TestLock: M6, the holder, one who waits, one who has nothing to do with it.
func TestLock(t *testing.T) {
	m, w := machine.New(), newModel()
	for _, op := range []int{api.OpUnlock, api.OpFence} {
		val := map[int]string{api.OpFence: "1"}[op]
		wantAnswer(t, "M6: nobody holds it", by(t, m, w, 3, op, "L", val), api.ResNone, "", 0)
	}
	wantAnswer(t, "M6: a free lock", by(t, m, w, 5, api.OpLock, "L"), api.ResDone, "", 1)
	wantAnswer(t, "M6: it holds it already", by(t, m, w, 5, api.OpLock, "L"), api.ResDone, "", 1)
	wantAnswer(t, "M6: not waiting", by(t, m, w, 3, api.OpUnlock, "L"), api.ResNone, "", 0)
	for i := range 15 {
		client := []int{15, 0, 3, 1, 14, 2, 13, 4, 12, 6, 11, 7, 10, 8, 9}[i]
		wantAnswer(t, "M6: it waits", by(t, m, w, client, api.OpLock, "L"), api.ResQueued, "", i+1)
		wantAnswer(t, "M6: it waits already", by(t, m, w, client, api.OpLock, "L"), api.ResQueued, "", i+1)
		wantAnswer(t, "M6: the holder", by(t, m, w, 5, api.OpLock, "L"), api.ResDone, "", 1)
	}
	wantState(t, m, w)
	wantAnswer(t, "M6: it leaves", by(t, m, w, 3, api.OpUnlock, "L"), api.ResLeft, "", 0)
	wantAnswer(t, "M6: it has left", by(t, m, w, 3, api.OpUnlock, "L"), api.ResNone, "", 0)
	wantAnswer(t, "M6: its place moved up", by(t, m, w, 1, api.OpLock, "L"), api.ResQueued, "", 3)
	wantAnswer(t, "M6: behind all others", by(t, m, w, 3, api.OpLock, "L"), api.ResQueued, "", 15)
	for i, client := range []int{5, 15, 0, 1, 14, 2, 13, 4, 12, 6, 11, 7, 10, 8, 9} {
		wantState(t, m, w)
		wantAnswer(t, "M6: passed on", by(t, m, w, client, api.OpUnlock, "L"), api.ResDone, "", i+2)
	}
	wantAnswer(t, "M6: the last one", by(t, m, w, 3, api.OpUnlock, "L"), api.ResDone, "", 0)
	wantAnswer(t, "M6: it is gone", by(t, m, w, 3, api.OpUnlock, "L"), api.ResNone, "", 0)
	wantState(t, m, w)
	wantAnswer(t, "M6: taken anew", by(t, m, w, 3, api.OpLock, "L"), api.ResDone, "", 17)
}

// TestFence: M6, anybody may ask, with every number.
func TestFence(t *testing.T) {
	m, w := machine.New(), newModel()
	for i := range 12 { // so that the token has two digits
		by(t, m, w, i%2, api.OpLock, "L")
		by(t, m, w, i%2, api.OpUnlock, "L")
	}
	by(t, m, w, 2, api.OpLock, "L")
	by(t, m, w, 3, api.OpLock, "L")
	for client := range 5 {
		for _, n := range []int{1, 2, 3, 12, 13, 14, 113, 130, 99999999} {
			r := by(t, m, w, client, api.OpFence, "L", strconv.Itoa(n))
			if n == 13 {
				wantAnswer(t, "M6: the token", r, api.ResDone, "", 13)
			} else {
				wantAnswer(t, "M6: another token", r, api.ResStale, "", 13)
			}
			wantAnswer(t, "M6: no such lock", by(t, m, w, client, api.OpFence, "M", "13"), api.ResNone, "", 0)
		}
	}
	wantState(t, m, w)
}

// TestFullOfLocks: M6, at MaxLocks: the held ones can be worked on still.
func TestFullOfLocks(t *testing.T) {
	m, w := machine.New(), newModel()
	for i, name := range names()[:8] {
		wantAnswer(t, "M6: a free lock", by(t, m, w, i%3, api.OpLock, name), api.ResDone, "", i+1)
	}
	for i, name := range names()[:8] {
		wantAnswer(t, "M6: full", by(t, m, w, 4, api.OpLock, "more"), api.ResFull, "", 0)
		wantAnswer(t, "M6: full, as a holder", by(t, m, w, 0, api.OpLock, "more"), api.ResFull, "", 0)
		wantAnswer(t, "M6: full", by(t, m, w, 4, api.OpLock, name), api.ResQueued, "", 1)
		wantAnswer(t, "M6: left", by(t, m, w, 4, api.OpUnlock, name), api.ResLeft, "", 0)
		wantAnswer(t, "M6: gone", by(t, m, w, i%3, api.OpUnlock, name), api.ResDone, "", 0)
		wantAnswer(t, "M6: there is room", by(t, m, w, 4, api.OpLock, "more"), api.ResDone, "", 9+2*i)
		wantAnswer(t, "M6: full again", by(t, m, w, i%3, api.OpLock, name), api.ResFull, "", 0)
		by(t, m, w, 4, api.OpUnlock, "more")
		wantAnswer(t, "M6: there is room", by(t, m, w, i%3, api.OpLock, name), api.ResDone, "", 10+2*i)
		wantState(t, m, w)
	}
	wantAnswer(t, "M5: locks take no keys' room", by(t, m, w, 4, api.OpSet, "more", "v"), api.ResDone, "", 0)
}

// near is a state with the lock L of client 0, for which 1 and 2 wait, M of client 1 and N of client 2, so many tokens short of the last.
func near(short int) *model {
	w := newModel()
	for p := range 3 {
		w.sessions[p] = api.Session{Inc: 1, Req: 1, Last: result(api.ResDone, "", 0)}
	}
	w.tokens = api.MaxToken - short
	w.locks = []held{{"L", 0, w.tokens, []int{1, 2}}, {"M", 1, w.tokens - 1, []int{0}}, {"N", 2, w.tokens - 2, nil}}
	return w
}

// TestTokensSpent: M6 and the passing on, at MaxToken: no lock is granted any more; the queue goes with its lock.
func TestTokensSpent(t *testing.T) {
	w := near(0)
	m := restore(t, w)
	wantAnswer(t, "M6: spent", by(t, m, w, 5, api.OpLock, "free"), api.ResSpent, "", 0)
	wantAnswer(t, "M6: the holder", by(t, m, w, 0, api.OpLock, "L"), api.ResDone, "", api.MaxToken)
	wantAnswer(t, "M6: it waits", by(t, m, w, 5, api.OpLock, "L"), api.ResQueued, "", 3)
	wantAnswer(t, "M6: the token", by(t, m, w, 5, api.OpFence, "L", "99999999"), api.ResDone, "", api.MaxToken)
	wantAnswer(t, "M6: gone with its queue", by(t, m, w, 0, api.OpUnlock, "L"), api.ResDone, "", 0)
	wantState(t, m, w)
	wantAnswer(t, "M6: nobody waits", by(t, m, w, 1, api.OpUnlock, "L"), api.ResNone, "", 0)
	wantAnswer(t, "M6: ended", by(t, m, w, 5, api.OpEnd, "", "1"), api.ResDone, "", 1)
	wantState(t, m, w)
	both(t, m, w, cmd(2, 2, 1, api.OpGet, "k"))
	if n := len(m.Locks()); n != 0 {
		t.Errorf("M4: %d locks are held still", n)
	}
	for i := range 8 { // with the lock's room as well: there is none that could be full
		wantAnswer(t, "M6: spent", by(t, m, w, i, api.OpLock, "free"), api.ResSpent, "", 0)
	}
}

// TestFullAheadOfSpent: M6, ResFull comes first.
func TestFullAheadOfSpent(t *testing.T) {
	w := near(0)
	for i := range 5 {
		w.locks = append(w.locks, held{names()[i], i % 3, 1 + i, nil})
	}
	m := restore(t, w)
	wantAnswer(t, "M6: full and spent", by(t, m, w, 0, api.OpLock, "free"), api.ResFull, "", 0)
	by(t, m, w, 0, api.OpUnlock, "L")
	wantAnswer(t, "M6: spent", by(t, m, w, 0, api.OpLock, "free"), api.ResSpent, "", 0)
}

// TestLastToken: the last token is given; then there is none, by each of the ways that give one.
func TestLastToken(t *testing.T) {
	for short := range 4 {
		for _, end := range []bool{true, false} {
			w := near(short)
			m := restore(t, w)
			if short > 0 {
				wantAnswer(t, "M6: a token", by(t, m, w, 3, api.OpLock, "free"), api.ResDone, "", api.MaxToken-short+1)
			}
			if end {
				by(t, m, w, 4, api.OpEnd, "", "0")
				by(t, m, w, 4, api.OpEnd, "", "1")
			} else {
				both(t, m, w, cmd(0, 2, 1, api.OpGet, "k"))
				both(t, m, w, cmd(1, 2, 1, api.OpGet, "k"))
			}
			wantState(t, m, w)
			if short < 3 {
				wantAnswer(t, "M6: spent", by(t, m, w, 4, api.OpLock, "another"), api.ResSpent, "", 0)
			}
		}
	}
}

// TestEnd: M6, what the ended one held and waited for, seen from all sides.
func TestEnd(t *testing.T) {
	m, w := machine.New(), newModel()
	for _, name := range []string{"c", "a", "d", "b"} {
		by(t, m, w, 1, api.OpLock, name)
	}
	by(t, m, w, 2, api.OpLock, "e")
	for _, name := range []string{"a", "b", "c"} {
		by(t, m, w, 2, api.OpLock, name)
		by(t, m, w, 3, api.OpLock, name)
	}
	by(t, m, w, 1, api.OpLock, "e")
	by(t, m, w, 3, api.OpLock, "e")
	wantAnswer(t, "M6: no session", by(t, m, w, 0, api.OpEnd, "", "4"), api.ResNone, "", 0)
	before, _ := m.Session(1)
	wantAnswer(t, "M6: it held four", by(t, m, w, 0, api.OpEnd, "", "1"), api.ResDone, "", 4)
	wantState(t, m, w)
	for i, name := range []string{"a", "b", "c"} { // by rising name
		if h, ok := m.Holder(name); h != (api.Holder{Client: 2, Inc: 1, Token: 6 + i}) || !ok {
			t.Errorf("M6: %q is held by %+v, %v", name, h, ok)
		}
	}
	if _, ok := m.Holder("d"); ok {
		t.Error("M6: d is held still")
	}
	if s, ok := m.Session(1); s != before || !ok {
		t.Errorf("M6: the ended one's session is %#v, it was %#v", s, before)
	}
	wantAnswer(t, "M6: it held none", by(t, m, w, 0, api.OpEnd, "", "1"), api.ResDone, "", 0)
	wantAnswer(t, "M6: the same is told apart still", both(t, m, w, cmd(1, 1, before.Req, api.OpLock, "e")), api.ResQueued, "", 1)
	wantAnswer(t, "M6: it can ask still", by(t, m, w, 1, api.OpLock, "e"), api.ResQueued, "", 2)
	wantAnswer(t, "M6: itself", by(t, m, w, 2, api.OpEnd, "", "2"), api.ResDone, "", 4)
	wantAnswer(t, "M6: one that only waits", by(t, m, w, 0, api.OpEnd, "", "1"), api.ResDone, "", 0)
	wantState(t, m, w)
}

// TestEndOfAll: M6, every client's number.
func TestEndOfAll(t *testing.T) {
	for ended := range 16 {
		for asking := range 16 {
			m, w := machine.New(), newModel()
			wantAnswer(t, "M6: no session", by(t, m, w, asking, api.OpEnd, "", strconv.Itoa(ended)), api.ResNone, "", 0)
			by(t, m, w, ended, api.OpLock, "L")
			by(t, m, w, (ended+1)%16, api.OpLock, "L")
			wantAnswer(t, "M6: it held one", by(t, m, w, asking, api.OpEnd, "", strconv.Itoa(ended)), api.ResDone, "", 1)
			wantState(t, m, w)
		}
	}
}

package machine_test

import (
	"bytes"
	"encoding/binary"
	"math/rand"
	"slices"
	"strings"
	"testing"

	"quorate/api"
	"quorate/machine"
)

// rich is a valid state with some of everything.
func rich() *model {
	w := newModel()
	w.tokens = 300
	w.pairs = []api.Pair{{Key: "a", Val: "x"}, {Key: "a\x00", Val: ""}, {Key: "b", Val: "99999999"}, {Key: "\xff", Val: "\x00"}}
	w.locks = []held{{"L", 0, 300, []int{2, 1}}, {"La", 2, 7, nil}, {"M", 0, 200, []int{3}}}
	for i, r := range []api.Result{result(api.ResDone, "value", 1), result(api.ResQueued, "", 2), result(api.ResStale, "", 300), result(api.ResSpent, "", 0)} {
		w.sessions[i] = api.Session{Inc: 1 + 200*i, Req: 300 - i, Last: r}
	}
	w.sessions[15] = api.Session{Inc: api.MaxCount, Req: api.MaxCount, Last: result(api.ResLeft, "", 0)}
	return w
}

// largest is a state whose text can be no longer.
func largest() *model {
	w := newModel()
	w.tokens = api.MaxToken
	for i := range 16 {
		w.pairs = append(w.pairs, api.Pair{Key: "key 000" + string(rune('A'+i)), Val: "-1234567"})
		w.sessions[i] = api.Session{Inc: api.MaxCount, Req: api.MaxCount - i, Last: result(api.ResDone, "\xff\xff\xff\xff\xff\xff\xff\xff", api.MaxToken-i)}
	}
	for i := range 8 {
		l := held{name: "lock000" + string(rune('A'+i)), client: i, token: api.MaxToken - i}
		for p := range 15 {
			l.queue = append(l.queue, (i+15-p)%16)
		}
		w.locks = append(w.locks, l)
	}
	return w
}

// wantRestore holds Restore against the chapter's words; what it takes is looked at from all sides, and goes on. It tells whether it takes it.
func wantRestore(t *testing.T, b []byte) bool {
	t.Helper()
	w, ok := restored(b)
	m, e := machine.Restore(b)
	if !ok {
		if m != nil || e != api.ErrSnapshot {
			t.Fatalf("M9: Restore of % x: %v, error %d, want %d", b, m, e, api.ErrSnapshot)
		}
		return false
	}
	if m == nil || e != api.OK {
		t.Fatalf("M9: Restore of % x: error %d", b, e)
	}
	if got := m.Snapshot(); !bytes.Equal(got, b) {
		t.Fatalf("M9: Snapshot of Restore of % x is % x", b, got)
	}
	wantState(t, m, w)
	for p := range 3 {
		s := w.sessions[p]
		both(t, m, w, cmd(p, max(s.Inc, 1), min(s.Req, api.MaxCount-1)+1, api.OpLock, "L"))
	}
	return true
}

// TestRestore: M9, states at their edges.
func TestRestore(t *testing.T) {
	states := []*model{newModel(), rich(), largest(), near(0), near(3)}
	for code := range 13 {
		w := rich()
		w.sessions[1] = api.Session{Inc: 1, Req: 1, Last: result(code, "12345678", api.MaxToken)}
		states = append(states, w)
	}
	taken := 0
	for _, w := range states {
		if wantRestore(t, w.snapshot()) {
			taken++
		}
	}
	if taken != len(states)-3 { // there are no results with the codes 0, 10 and 12
		t.Errorf("the test is wrong: %d of %d states", taken, len(states))
	}
	if n := len(restore(t, largest()).Snapshot()); n != 1070 {
		t.Errorf("M8: the longest snapshot has %d bytes, want 1070", n)
	}
}

// alterations make a valid state one that is not.
func alterations() map[string]func(w *model) {
	session := func(p int, do func(s *api.Session)) func(w *model) {
		return func(w *model) {
			s := w.sessions[p]
			do(&s)
			w.sessions[p] = s
		}
	}
	return map[string]func(w *model){
		"too many tokens":           func(w *model) { w.tokens = api.MaxToken + 1 },
		"fewer tokens than a lock":  func(w *model) { w.tokens = 299 },
		"no tokens":                 func(w *model) { w.tokens = 0 },
		"an empty key":              func(w *model) { w.pairs[0].Key = "" },
		"a long key":                func(w *model) { w.pairs[0].Key = "a12345678" },
		"a long value":              func(w *model) { w.pairs[1].Val = "123456789" },
		"keys that fall":            func(w *model) { w.pairs[0], w.pairs[1] = w.pairs[1], w.pairs[0] },
		"the last keys fall":        func(w *model) { w.pairs[2], w.pairs[3] = w.pairs[3], w.pairs[2] },
		"a key twice":               func(w *model) { w.pairs[1] = w.pairs[0] },
		"a key twice, other values": func(w *model) { w.pairs[1].Key = w.pairs[0].Key },
		"too many keys": func(w *model) {
			w.pairs = nil
			for i := range 17 {
				w.pairs = append(w.pairs, api.Pair{Key: string(rune('a' + i))})
			}
		},
		"an empty name":           func(w *model) { w.locks[0].name = "" },
		"a long name":             func(w *model) { w.locks[0].name = "L12345678" },
		"names that fall":         func(w *model) { w.locks[0].name, w.locks[1].name = w.locks[1].name, w.locks[0].name },
		"a name twice":            func(w *model) { w.locks[1].name = w.locks[0].name },
		"a token 0":               func(w *model) { w.locks[1].token = 0 },
		"a token above Tokens":    func(w *model) { w.locks[0].token = 301 },
		"two locks, one token":    func(w *model) { w.locks[2].token = 300 },
		"neighbours, one token":   func(w *model) { w.locks[1].token = 300 },
		"a stranger holds":        func(w *model) { w.locks[0].client = 4 },
		"no client holds":         func(w *model) { w.locks[0].client = 16 },
		"a great number holds":    func(w *model) { w.locks[1].client = api.MaxCount },
		"the holder waits":        func(w *model) { w.locks[0].queue = []int{2, 0} },
		"one waits twice":         func(w *model) { w.locks[0].queue = []int{2, 1, 2} },
		"one waits twice at once": func(w *model) { w.locks[0].queue = []int{1, 1} },
		"a stranger waits":        func(w *model) { w.locks[0].queue = []int{2, 4} },
		"a stranger waits last":   func(w *model) { w.locks[2].queue = []int{3, 14} },
		"no client waits":         func(w *model) { w.locks[0].queue = []int{16} },
		"a great number waits":    func(w *model) { w.locks[0].queue = []int{api.MaxCount} },
		"too many wait":           func(w *model) { w.locks[0].queue = slices.Repeat([]int{1}, 16) },
		"too many locks": func(w *model) {
			w.locks = nil
			for i := range 9 {
				w.locks = append(w.locks, held{name: string(rune('a' + i)), token: 1 + i})
			}
		},
		"the holder has no session": func(w *model) { delete(w.sessions, 0) },
		"a waiter has no session":   func(w *model) { delete(w.sessions, 3) },
		"a session of no client":    func(w *model) { w.sessions[16] = w.sessions[0] },
		"a session of a far number": func(w *model) { w.sessions[api.MaxCount] = w.sessions[0] },
		"an incarnation 0":          session(1, func(s *api.Session) { s.Inc = 0 }),
		"an incarnation too great":  session(1, func(s *api.Session) { s.Inc = api.MaxCount + 1 }),
		"a request 0":               session(15, func(s *api.Session) { s.Req = 0 }),
		"a request too great":       session(15, func(s *api.Session) { s.Req = api.MaxCount + 1 }),
		"no code":                   session(2, func(s *api.Session) { s.Last.Code = 0 }),
		"a bad code":                session(2, func(s *api.Session) { s.Last.Code = api.ResBad }),
		"a code too great":          session(2, func(s *api.Session) { s.Last.Code = 12 }),
		"a code far too great":      session(2, func(s *api.Session) { s.Last.Code = 257 }),
		"a long result":             session(0, func(s *api.Session) { s.Last.Val = "123456789" }),
		"a great N":                 session(0, func(s *api.Session) { s.Last.N = api.MaxToken + 1 }),
		"a far too great N":         session(0, func(s *api.Session) { s.Last.N = api.MaxCount }),
	}
}

// TestRestoreWrong: M9, states that are not valid; their texts are in order otherwise.
func TestRestoreWrong(t *testing.T) {
	for name, alter := range alterations() {
		w := rich()
		alter(w)
		if m, e := machine.Restore(w.snapshot()); m != nil || e != api.ErrSnapshot {
			t.Errorf("M9: %s: %v, error %d, want %d", name, m, e, api.ErrSnapshot)
		}
		wantRestore(t, w.snapshot())
	}
}

// TestRestoreSessions: M9, sessions that do not rise, or stand twice.
func TestRestoreSessions(t *testing.T) {
	one := func(p int) []byte { return []byte{byte(p), 1, 1, 1, 0, 0} }
	for _, clients := range [][]int{{0}, {15}, {0, 1}, {1, 0}, {3, 3}, {0, 15}, {15, 0}, {1, 2, 2}, {1, 3, 2}, {0, 1, 2, 3, 4, 5, 6, 7, 8, 9, 10, 11, 12, 13, 14, 15}, {0, 1, 2, 3, 4, 5, 6, 7, 8, 9, 10, 11, 12, 13, 14, 15, 15}, {0, 1, 2, 3, 4, 5, 6, 7, 8, 9, 10, 11, 12, 13, 14, 15, 16}} {
		b := []byte{0x51, 0x53, 1, 0, 0, 0, byte(len(clients))}
		for _, p := range clients {
			b = append(b, one(p)...)
		}
		isRising := len(clients) < 17 && slices.IsSorted(clients) && len(slices.Compact(slices.Clone(clients))) == len(clients)
		if got := wantRestore(t, summed(b)); got != isRising {
			t.Errorf("M9: sessions of %v: taken %v", clients, got)
		}
	}
}

// TestRestoreSum: M9, the sum must be that of the bytes ahead of it, lowest byte first.
func TestRestoreSum(t *testing.T) {
	for _, w := range []*model{newModel(), rich(), largest()} {
		b := w.snapshot()
		for at := range b {
			for bit := range 8 {
				d := bytes.Clone(b)
				d[at] ^= 1 << bit
				if m, e := machine.Restore(d); m != nil || e != api.ErrSnapshot {
					t.Fatalf("M9: with bit %d of byte %d turned: error %d", bit, at, e)
				}
			}
		}
		for at := range len(b) {
			wantRestore(t, b[:at])
			wantRestore(t, b[at+1:])
		}
		n := len(b) - 4
		sum := binary.LittleEndian.Uint32(b[n:])
		wantRestore(t, binary.BigEndian.AppendUint32(bytes.Clone(b[:n]), sum))
		wantRestore(t, append(bytes.Clone(b), b[n:]...))
		wantRestore(t, append(bytes.Clone(b), 0))
		wantRestore(t, summed(b))
		wantRestore(t, append(b[:n:n], 0, 0, 0, 0))
	}
	for n := range 12 {
		wantRestore(t, make([]byte, n))
	}
}

// TestRestoreDamaged: M9, changed bytes with the right sum behind them, against the chapter's words.
func TestRestoreDamaged(t *testing.T) {
	seen := [2]int{}
	look := func(b []byte) {
		if wantRestore(t, summed(b)) {
			seen[1]++
		} else {
			seen[0]++
		}
	}
	for _, w := range []*model{newModel(), rich()} {
		b := w.body()
		for at := range len(b) + 1 {
			look(b[:at])
			if at < len(b) {
				look(append(bytes.Clone(b[:at]), b[at+1:]...))
			}
			for x := range 256 {
				look(append(append(bytes.Clone(b[:at]), byte(x)), b[at:]...))
				if at < len(b) {
					d := bytes.Clone(b)
					d[at] = byte(x)
					look(d)
				}
			}
		}
	}
	if seen[0] < 30000 || seen[1] < 3000 {
		t.Errorf("the test is too weak: %d texts refused, %d taken", seen[0], seen[1])
	}
}

// TestRestoreLongCounts: M9, counts that are not in their shortest form, or far too great.
func TestRestoreLongCounts(t *testing.T) {
	for at := 3; at < 7; at++ {
		for _, count := range [][]byte{{0x80, 0}, {0x80, 0x80, 0}, {0xff, 0xff, 0x03}, {0x80, 0x80, 0x80, 0x80, 0x80, 0x80, 0x80, 0x80, 0x40}, bytes.Repeat([]byte{0xff}, 12), bytes.Repeat([]byte{0x80}, 9)} {
			b := []byte{0x51, 0x53, 1, 0, 0, 0, 0}
			b = append(append(b[:at:at], count...), b[at+1:]...)
			if wantRestore(t, summed(b)) && at > 3 {
				t.Errorf("the test is wrong: % x", b)
			}
		}
	}
	long := strings.Repeat("x", 300)
	for _, b := range [][]byte{
		text(text([]byte{0x51, 0x53, 1, 0, 1}, long), "v"),
		text(text([]byte{0x51, 0x53, 1, 0, 1}, "k"), long),
		text([]byte{0x51, 0x53, 1, 1, 0, 1}, long),
		counts([]byte{0x51, 0x53, 1, 0, 1}, api.MaxCount),
	} {
		wantRestore(t, summed(b))
		wantRestore(t, summed(append(b, make([]byte, 400)...)))
	}
}

// TestRestoreAnyBytes: P1 and M9.
func TestRestoreAnyBytes(t *testing.T) {
	r := rand.New(rand.NewSource(5))
	for range 50000 {
		b := make([]byte, r.Intn(60))
		r.Read(b)
		for i := range b {
			if r.Intn(3) > 0 {
				b[i] %= 4
			}
		}
		if r.Intn(4) > 0 {
			b = append([]byte{0x51, 0x53, 1}, b...)
		}
		if r.Intn(8) > 0 {
			b = summed(b)
		}
		wantRestore(t, b)
	}
	wantRestore(t, nil)
	wantRestore(t, summed(make([]byte, 1<<20)))
	wantRestore(t, summed(append([]byte{0x51, 0x53, 1, 0, 0, 0, 0}, make([]byte, 1<<20)...)))
}

// TestMark: M9, the three bytes in front.
func TestMark(t *testing.T) {
	for at := range 3 {
		for x := range 256 {
			b := []byte{0x51, 0x53, 1, 0, 0, 0, 0}
			isMark := int(b[at]) == x
			b[at] = byte(x)
			m, e := machine.Restore(summed(b))
			if (e == api.OK) != isMark || (m != nil) != isMark {
				t.Errorf("M9: with the byte %#x at %d: error %d", x, at, e)
			}
		}
	}
}

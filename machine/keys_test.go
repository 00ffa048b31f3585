package machine_test

import (
	"strconv"
	"testing"

	"quorate/api"
	"quorate/machine"
)

// ask applies what client 0 asks for next, and holds it against the chapter's words.
func ask(t *testing.T, m *machine.Machine, w *model, op int, key string, texts ...string) api.Result {
	t.Helper()
	return both(t, m, w, cmd(0, 1, w.sessions[0].Req+1, op, key, texts...))
}

// wantAnswer looks at an answer once more, beside the model's.
func wantAnswer(t *testing.T, what string, got api.Result, code int, val string, n int) {
	t.Helper()
	if got != result(code, val, n) {
		t.Errorf("%s: %#v, want {%d %q %d}", what, got, code, val, n)
	}
}

// TestKeys: M5, each operation on a key that there is and on one that there is not, with every value.
func TestKeys(t *testing.T) {
	for _, had := range values() {
		for _, val := range values() {
			m, w := machine.New(), newModel()
			for _, op := range []int{api.OpGet, api.OpDel, api.OpCas} {
				wantAnswer(t, "M5: no such key", ask(t, m, w, op, "k"), api.ResNone, "", 0)
			}
			wantAnswer(t, "M5: OpSet", ask(t, m, w, api.OpSet, "k", had), api.ResDone, "", 0)
			wantAnswer(t, "M5: OpGet", ask(t, m, w, api.OpGet, "k"), api.ResDone, had, 1)
			if had == val {
				wantAnswer(t, "M5: OpCas", ask(t, m, w, api.OpCas, "k", "new", val), api.ResDone, had, 1)
				wantAnswer(t, "M5: OpGet", ask(t, m, w, api.OpGet, "k"), api.ResDone, "new", 1)
			} else {
				wantAnswer(t, "M5: OpCas", ask(t, m, w, api.OpCas, "k", "new", val), api.ResDiffer, had, 1)
				wantAnswer(t, "M5: OpGet", ask(t, m, w, api.OpGet, "k"), api.ResDone, had, 1)
			}
			ask(t, m, w, api.OpSet, "k", had)
			wantAnswer(t, "M5: OpSet", ask(t, m, w, api.OpSet, "k", val), api.ResDone, had, 1)
			if isNumberText(val) {
				wantAnswer(t, "M5: OpAdd joins", ask(t, m, w, api.OpAdd, "other", val), api.ResDone, val, 0)
				wantAnswer(t, "M5: OpAdd of 0", ask(t, m, w, api.OpAdd, "other", "0"), api.ResDone, val, 1)
			}
			wantState(t, m, w)
			wantAnswer(t, "M5: OpDel", ask(t, m, w, api.OpDel, "k"), api.ResDone, val, 1)
			wantAnswer(t, "M5: OpDel again", ask(t, m, w, api.OpDel, "k"), api.ResNone, "", 0)
			wantState(t, m, w)
		}
	}
}

// TestAddBounds: M5, all sums near the bounds.
func TestAddBounds(t *testing.T) {
	m, w := machine.New(), newModel()
	numbers := []int{-9999999, -9999998, -5000000, -4999999, -10, -9, -1, 0, 1, 9, 10, 49999999, 50000000, 50000001, 89999999, 90000000, 90000001, 99999998, 99999999}
	seen := map[int]int{}
	for _, a := range numbers {
		for _, b := range numbers {
			ask(t, m, w, api.OpSet, "n", strconv.Itoa(a))
			r := ask(t, m, w, api.OpAdd, "n", strconv.Itoa(b))
			seen[r.Code]++
			if sum := a + b; sum < -9999999 || sum > 99999999 {
				wantAnswer(t, "M5: out of range", r, api.ResOver, strconv.Itoa(a), 1)
			} else {
				wantAnswer(t, "M5: a sum", r, api.ResDone, strconv.Itoa(sum), 1)
			}
			ask(t, m, w, api.OpGet, "n")
		}
	}
	if len(seen) != 2 || seen[api.ResOver] < 50 {
		t.Errorf("the test is too weak: %v", seen)
	}
}

// TestNoNumber: M5, a value that is no number text stays, whatever is added.
func TestNoNumber(t *testing.T) {
	for _, had := range values() {
		for _, more := range []string{"0", "1", "-1", "99999999", "-9999999"} {
			m, w := machine.New(), newModel()
			ask(t, m, w, api.OpSet, "k", had)
			r := ask(t, m, w, api.OpAdd, "k", more)
			if !isNumberText(had) {
				wantAnswer(t, "M5: no number", r, api.ResNumber, had, 1)
			}
			if v, _ := m.Get("k"); r.Code != api.ResDone && v != had {
				t.Errorf("M5: behind %#v the value is %q, it was %q", r, v, had)
			}
		}
	}
}

// TestFullOfKeys: M5, at MaxKeys; the keys that are there can be worked on still, and a place that is freed can be taken.
func TestFullOfKeys(t *testing.T) {
	m, w := machine.New(), newModel()
	all := names()[:16]
	for i, key := range all {
		if i%2 == 0 {
			wantAnswer(t, "M5: OpSet joins", ask(t, m, w, api.OpSet, key, "1"), api.ResDone, "", 0)
		} else {
			wantAnswer(t, "M5: OpAdd joins", ask(t, m, w, api.OpAdd, key, "1"), api.ResDone, "1", 0)
		}
	}
	for i, key := range all {
		wantState(t, m, w)
		wantAnswer(t, "M5: full", ask(t, m, w, api.OpSet, "more", "v"), api.ResFull, "", 0)
		wantAnswer(t, "M5: full", ask(t, m, w, api.OpAdd, "more", "1"), api.ResFull, "", 0)
		wantAnswer(t, "M5: full", ask(t, m, w, api.OpCas, "more", "v", ""), api.ResNone, "", 0)
		wantAnswer(t, "M5: full", ask(t, m, w, api.OpSet, key, "1"), api.ResDone, "1", 1)
		wantAnswer(t, "M5: full", ask(t, m, w, api.OpAdd, key, "2"), api.ResDone, "3", 1)
		wantAnswer(t, "M5: OpDel", ask(t, m, w, api.OpDel, key), api.ResDone, "3", 1)
		if i%2 == 0 {
			ask(t, m, w, api.OpSet, "more", "v")
		} else {
			ask(t, m, w, api.OpAdd, "more", "1")
		}
		wantAnswer(t, "M5: full again", ask(t, m, w, api.OpSet, key, "1"), api.ResFull, "", 0)
		ask(t, m, w, api.OpDel, "more")
		wantAnswer(t, "M5: there is room", ask(t, m, w, api.OpSet, key, "1"), api.ResDone, "", 0)
	}
	wantAnswer(t, "M6: keys take no locks' room", ask(t, m, w, api.OpLock, "more"), api.ResDone, "", 1)
}

// TestKeysAndLocksApart: M6, a key and a lock of one name have nothing to do with each other.
func TestKeysAndLocksApart(t *testing.T) {
	m, w := machine.New(), newModel()
	ask(t, m, w, api.OpLock, "k")
	wantAnswer(t, "M5: a lock is no key", ask(t, m, w, api.OpGet, "k"), api.ResNone, "", 0)
	ask(t, m, w, api.OpSet, "k", "v")
	wantAnswer(t, "M6: a key is no lock", ask(t, m, w, api.OpUnlock, "k"), api.ResDone, "", 0)
	wantAnswer(t, "M5: the key stays", ask(t, m, w, api.OpGet, "k"), api.ResDone, "v", 1)
	ask(t, m, w, api.OpLock, "k")
	ask(t, m, w, api.OpDel, "k")
	wantState(t, m, w)
	wantAnswer(t, "M6: the lock stays", ask(t, m, w, api.OpFence, "k", "2"), api.ResDone, "", 2)
}

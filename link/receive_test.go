package link_test

import (
	"math"
	"strings"
	"testing"

	"quorate/api"
	"quorate/link"
)

func TestTakeInTurn(t *testing.T) {
	m := joined(t, 2, 0, 2, 3, 1)
	for k, body := range []string{"a", "bb", strings.Repeat("c", api.MaxItem), "\x00", "e"} {
		take(t, m, 1, k+1, body, body)
		wantNumbers(t, m, 1, numbers{room: 3, got: k + 1})
	}
}

// TestTakeInAnyTurn: all orders of the pieces of one window, behind so many that have come.
func TestTakeInAnyTurn(t *testing.T) {
	const window = 5
	letters := "abcde"
	var orders func(left []int, order []int)
	orders = func(left []int, order []int) {
		if len(left) > 0 {
			for k, seq := range left {
				rest := append(append([]int{}, left[:k]...), left[k+1:]...)
				orders(rest, append(append([]int{}, order...), seq))
			}
			return
		}
		ahead := order[0]
		m := joined(t, 3, 2, window, window, 0)
		for k := range ahead {
			take(t, m, 0, k+1, "x", "x")
		}
		come := map[int]bool{}
		got := 0
		for _, seq := range order {
			come[seq] = true
			from := got
			for come[got+1] {
				got++
			}
			take(t, m, 0, ahead+seq, letters[seq-1:seq], strings.Join(strings.Split(letters[from:got], ""), " "))
			wantNumbers(t, m, 0, numbers{room: window, got: ahead + got})
		}
	}
	orders([]int{1, 2, 3, 4, 5}, nil)
}

func TestTakeTwice(t *testing.T) {
	m := joined(t, 2, 0, 3, 3, 1)
	take(t, m, 1, 3, "c", "")
	take(t, m, 1, 3, "x", "")
	take(t, m, 1, 2, "b", "")
	take(t, m, 1, 2, "y", "")
	take(t, m, 1, 3, "z", "")
	take(t, m, 1, 1, "a", "a b c")
	for seq := 1; seq <= 3; seq++ {
		take(t, m, 1, seq, "w", "")
	}
	wantNumbers(t, m, 1, numbers{room: 3, got: 3})
	take(t, m, 1, 5, "e", "")
	take(t, m, 1, 4, "d", "d e")
}

func TestTakeRefuses(t *testing.T) {
	refused := func(m *link.Mux, p int, f api.Frame, want api.Errno) {
		t.Helper()
		if l, e := m.Take(p, f); l != nil || e != want {
			t.Errorf("L7: Take(%d, %.100v) = %v, error %d, want no list, %d", p, f, l, e, want)
		}
	}
	long := strings.Repeat("x", api.MaxItem+1)
	wantUnchanged(t, "L7: a Take that was refused", func(m *link.Mux) {
		for _, tag := range append(otherTags(), tagT) {
			for _, seq := range []int{0, -1, math.MinInt, api.MaxCount + 1, math.MaxInt} {
				for _, body := range []string{"x", "", long} {
					refused(m, 0, frame(tag, seq, body), api.ErrArg)
				}
			}
			for _, seq := range []int{1, 2, 3, 4, 5, api.MaxCount} {
				refused(m, 0, frame(tag, seq, ""), api.ErrArg)
				refused(m, 0, api.Frame{Tag: tag, Seq: seq}, api.ErrArg)
				refused(m, 0, frame(tag, seq, long), api.ErrArg)
			}
		}
		for _, tag := range otherTags() {
			for _, seq := range []int{1, 2, 3, 4, 5, 6, api.MaxCount} {
				refused(m, 0, frame(tag, seq, "x"), api.ErrTag)
			}
		}
		for _, seq := range []int{5, 6, 7, api.MaxCount - 1, api.MaxCount} {
			refused(m, 0, frame(tagT, seq, "x"), api.ErrFar)
			refused(m, 0, frame(tagT, seq, long[1:]), api.ErrFar)
		}
		refused(m, 3, frame(tagT, 4, "x"), api.ErrFar)
	})
}

// TestTakeFar: how far ahead a piece may come, at each window, behind so many that have come.
func TestTakeFar(t *testing.T) {
	for window := 1; window <= 4; window++ {
		for got := range 9 {
			m := joined(t, 2, 0, window, 6, 1)
			for seq := 1; seq <= got; seq++ {
				take(t, m, 1, seq, "x", "x")
			}
			far := got + window + 1
			if l, e := m.Take(1, frame(tagT, far, "y")); l != nil || e != api.ErrFar {
				t.Fatalf("L7: window %d, Got %d: Take of %d = %v, error %d, want ErrFar", window, got, far, l, e)
			}
			want := ""
			if window == 1 {
				want = "z"
			}
			take(t, m, 1, far-1, "z", want)
		}
	}
}

func TestOwed(t *testing.T) {
	m := joined(t, 4, 2, 3, 3, 0, 1)
	owed := func(upto int) {
		t.Helper()
		wantOwed(t, m, 0, api.Ack{Tag: tagT, Upto: upto}, true)
		wantOwed(t, m, 0, api.Ack{}, false)
		wantOwed(t, m, 1, api.Ack{}, false)
	}
	wantOwed(t, m, 0, api.Ack{}, false)
	take(t, m, 0, 2, "b", "")
	owed(0)
	take(t, m, 0, 2, "b", "")
	owed(0)
	take(t, m, 0, 1, "a", "a b")
	owed(2)
	take(t, m, 0, 1, "a", "")
	owed(2)
	take(t, m, 0, 2, "x", "")
	take(t, m, 0, 5, "e", "")
	take(t, m, 0, 3, "c", "c")
	owed(3)
	for _, f := range []api.Frame{frame(tagU, 4, "d"), frame(tagT, 7, "g"), frame(tagT, 0, "d"), frame(tagT, 4, "")} {
		m.Take(0, f)
		wantOwed(t, m, 0, api.Ack{}, false)
	}
	push(t, m, 0, "x")
	acked(t, m, 0, 1)
	wantOwed(t, m, 0, api.Ack{}, false)
	take(t, m, 1, 1, "a", "a")
	wantOwed(t, m, 0, api.Ack{}, false)
	wantOwed(t, m, 1, api.Ack{Tag: tagT, Upto: 1}, true)
}

// TestOwedHasTheTag: the Mux's tag, whatever was there before.
func TestOwedHasTheTag(t *testing.T) {
	m := joined(t, 2, 0, 1, 1, 1)
	take(t, m, 1, 1, "a", "a")
	reset(t, m, tagU, 1)
	wantOwed(t, m, 1, api.Ack{}, false)
	m.Take(1, frame(tagU, 1, "a"))
	wantOwed(t, m, 1, api.Ack{Tag: tagU, Upto: 1}, true)
	push(t, m, 1, "b")
	wantFrames(t, m, 1, frame(tagU, 1, "b"))
}

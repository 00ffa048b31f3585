package link_test

import (
	"math"
	"strings"
	"testing"

	"quorate/api"
	"quorate/link"
)

func TestPushNumbers(t *testing.T) {
	m := joined(t, 3, 1, 2, 4, 0, 2)
	for k, body := range []string{"a", "bb", strings.Repeat("c", api.MaxItem), "\x00"} {
		push(t, m, 2, body)
		wantNumbers(t, m, 2, numbers{sent: k + 1, waiting: k + 1, room: 3 - k})
	}
	wantNumbers(t, m, 0, numbers{room: 4})
	wantFrames(t, m, 0)
	wantFrames(t, m, 2, frame(tagT, 1, "a"), frame(tagT, 2, "bb"))
	acked(t, m, 2, 2)
	wantFrames(t, m, 2, frame(tagT, 3, strings.Repeat("c", api.MaxItem)), frame(tagT, 4, "\x00"))
}

func TestPushRefuses(t *testing.T) {
	badBodies := [][]byte{nil, {}, make([]byte, api.MaxItem+1), make([]byte, 70000)}
	wantUnchanged(t, "L3: a Push that was refused", func(m *link.Mux) {
		for _, p := range []int{0, 3} {
			for _, body := range badBodies {
				if e := m.Push(p, body); e != api.ErrArg {
					t.Errorf("L3: Push(%d, %d bytes): error %d, want ErrArg", p, len(body), e)
				}
			}
		}
		for _, body := range [][]byte{{1}, make([]byte, api.MaxItem)} {
			if e := m.Push(3, body); e != api.ErrFull {
				t.Errorf("L3: Push(3, %d bytes) without room: error %d, want ErrFull", len(body), e)
			}
		}
	})
}

// TestPushWithoutRoom: room is what is pushed and not answered.
func TestPushWithoutRoom(t *testing.T) {
	for _, room := range []int{1, 2, 3, 7} {
		m := joined(t, 2, 0, 1, room, 1)
		for k := range room {
			wantNumbers(t, m, 1, numbers{sent: k, waiting: k, room: room - k})
			push(t, m, 1, "x")
		}
		for k := range 3 {
			if e := m.Push(1, []byte("y")); e != api.ErrFull {
				t.Fatalf("L3: Push with room %d all used: error %d, want ErrFull", room, e)
			}
			wantNumbers(t, m, 1, numbers{sent: room + k, waiting: room, room: 0})
			acked(t, m, 1, k+1)
			wantNumbers(t, m, 1, numbers{sent: room + k, waiting: room - 1, room: 1})
			push(t, m, 1, "z")
		}
	}
}

// TestFramesAreTheFirst: of each number of pieces kept, at each window.
func TestFramesAreTheFirst(t *testing.T) {
	for window := 1; window <= 5; window++ {
		for pushed := range 8 {
			m := joined(t, 2, 1, window, 7, 0)
			for k := range pushed {
				push(t, m, 0, string(rune('a'+k)))
			}
			for answered := 0; answered <= pushed; answered++ {
				acked(t, m, 0, answered)
				var want []api.Frame
				for seq := answered + 1; seq <= min(answered+window, pushed); seq++ {
					want = append(want, frame(tagT, seq, string(rune('a'+seq-1))))
				}
				wantFrames(t, m, 0, want...)
				wantFrames(t, m, 0, want...)
				wantNumbers(t, m, 0, numbers{sent: pushed, waiting: pushed - answered, room: 7 - pushed + answered})
			}
		}
	}
}

func TestAckedMoves(t *testing.T) {
	for upto := range 4 {
		m := joined(t, 2, 0, 3, 5, 1)
		push(t, m, 1, "a", "b", "c", "d", "e")
		acked(t, m, 1, upto)
		wantNumbers(t, m, 1, numbers{sent: 5, waiting: 5 - upto, room: upto})
		for lower := range upto + 1 {
			acked(t, m, 1, lower)
			wantNumbers(t, m, 1, numbers{sent: 5, waiting: 5 - upto, room: upto})
		}
	}
}

func TestAckedRefuses(t *testing.T) {
	refused := func(m *link.Mux, p int, a api.Ack, want api.Errno) {
		t.Helper()
		if e := m.Acked(p, a); e != want {
			t.Errorf("L6: Acked(%d, %v): error %d, want %d", p, a, e, want)
		}
	}
	wantUnchanged(t, "L6: an Ack that was refused", func(m *link.Mux) {
		for _, upto := range []int{-1, -2, math.MinInt, api.MaxCount + 1, math.MaxInt} {
			for _, tag := range append(otherTags(), tagT) {
				refused(m, 0, api.Ack{Tag: tag, Upto: upto}, api.ErrArg)
			}
		}
		for _, upto := range []int{0, 1, 2, 4, 5, 6, api.MaxCount} {
			for _, tag := range otherTags() {
				refused(m, 0, api.Ack{Tag: tag, Upto: upto}, api.ErrTag)
			}
		}
		for _, upto := range []int{5, 6, 7, api.MaxCount - 1, api.MaxCount} {
			refused(m, 0, api.Ack{Tag: tagT, Upto: upto}, api.ErrFar)
		}
		refused(m, 3, api.Ack{Tag: tagT, Upto: 4}, api.ErrFar)
	})
}

// TestAckedFar: how far the first frames go, with fewer pieces than the window, as many, more.
func TestAckedFar(t *testing.T) {
	for window := 1; window <= 4; window++ {
		for pushed := range 7 {
			for answered := 0; answered <= pushed; answered++ {
				m := joined(t, 2, 0, window, 6, 1)
				push(t, m, 1, strings.Split("abcdef"[:pushed], "")...)
				for upto := range answered + 1 {
					acked(t, m, 1, upto)
				}
				last := min(answered+window, pushed)
				if e := m.Acked(1, api.Ack{Tag: tagT, Upto: last + 1}); e != api.ErrFar || m.Waiting(1) != pushed-answered {
					t.Fatalf("L6: window %d, %d pushed, %d answered: Acked(%d): error %d, Waiting %d, want ErrFar, %d", window, pushed, answered, last+1, e, m.Waiting(1), pushed-answered)
				}
				acked(t, m, 1, last)
				wantNumbers(t, m, 1, numbers{sent: pushed, waiting: pushed - last, room: 6 - pushed + last})
			}
		}
	}
}

package link_test

import (
	"math"
	"slices"
	"strings"
	"testing"

	"quorate/api"
	"quorate/link"
)

var (
	tagT = api.ViewID{Epoch: 1, Lead: 0, Inc: 1, Cid: 1}
	tagU = api.ViewID{Epoch: 2, Lead: 1, Inc: 3, Cid: 4}
)

// otherTags differ from tagT in one number each, and there are the zero ID and one that is quite another.
func otherTags() []api.ViewID {
	list := []api.ViewID{{}, tagU}
	for _, change := range []func(id *api.ViewID){
		func(id *api.ViewID) { id.Epoch++ },
		func(id *api.ViewID) { id.Lead++ },
		func(id *api.ViewID) { id.Inc++ },
		func(id *api.ViewID) { id.Cid++ },
		func(id *api.ViewID) { id.Epoch = -1 },
		func(id *api.ViewID) { id.Cid = math.MaxInt },
	} {
		id := tagT
		change(&id)
		list = append(list, id)
	}
	return list
}

// made is a Mux without a tag.
func made(t *testing.T, nodes, self, window, room int) *link.Mux {
	t.Helper()
	m, e := link.New(nodes, self, window, room)
	if m == nil || e != api.OK {
		t.Fatalf("L1: New(%d, %d, %d, %d): error %d, want a Mux", nodes, self, window, room, e)
	}
	return m
}

func reset(t *testing.T, m *link.Mux, tag api.ViewID, peers ...int) {
	t.Helper()
	if e := m.Reset(tag, peers); e != api.OK {
		t.Fatalf("L2: Reset(%v, %v): error %d, want OK", tag, peers, e)
	}
}

// joined is a Mux with tagT and these peers.
func joined(t *testing.T, nodes, self, window, room int, peers ...int) *link.Mux {
	t.Helper()
	m := made(t, nodes, self, window, room)
	reset(t, m, tagT, peers...)
	return m
}

func push(t *testing.T, m *link.Mux, peer int, bodies ...string) {
	t.Helper()
	for _, b := range bodies {
		if e := m.Push(peer, []byte(b)); e != api.OK {
			t.Fatalf("L3: Push(%d, %q): error %d, want OK", peer, b, e)
		}
	}
}

func frame(tag api.ViewID, seq int, body string) api.Frame {
	return api.Frame{Tag: tag, Seq: seq, Body: []byte(body)}
}

// take hands over a frame with tagT, which must be taken, and holds what comes out against the words of want.
func take(t *testing.T, m *link.Mux, peer, seq int, body, want string) {
	t.Helper()
	l, e := m.Take(peer, frame(tagT, seq, body))
	if got := words(l); got != want || e != api.OK {
		t.Fatalf("L7: Take(%d, %d %q) = %q, error %d, want %q, OK", peer, seq, body, got, e, want)
	}
}

func words(l [][]byte) string {
	var list []string
	for _, b := range l {
		list = append(list, string(b))
	}
	return strings.Join(list, " ")
}

func acked(t *testing.T, m *link.Mux, peer, upto int) {
	t.Helper()
	if e := m.Acked(peer, api.Ack{Tag: tagT, Upto: upto}); e != api.OK {
		t.Fatalf("L6: Acked(%d, %d): error %d, want OK", peer, upto, e)
	}
}

func wantOwed(t *testing.T, m *link.Mux, peer int, want api.Ack, wantTrue bool) {
	t.Helper()
	if a, ok := m.Owed(peer); a != want || ok != wantTrue {
		t.Fatalf("L8: Owed(%d) = %v, %v, want %v, %v", peer, a, ok, want, wantTrue)
	}
}

func sameFrames(a, b []api.Frame) bool {
	return slices.EqualFunc(a, b, func(f, g api.Frame) bool {
		return f.Tag == g.Tag && f.Seq == g.Seq && string(f.Body) == string(g.Body)
	})
}

func wantFrames(t *testing.T, m *link.Mux, peer int, want ...api.Frame) {
	t.Helper()
	if got := m.Frames(peer); !sameFrames(got, want) {
		t.Fatalf("L5: Frames(%d) = %.300v, want %.300v", peer, got, want)
	}
}

// numbers are what a Mux tells of one peer by numbers.
type numbers struct {
	sent, waiting, room, got int
}

func numbersOf(m *link.Mux, peer int) numbers {
	return numbers{m.Sent(peer), m.Waiting(peer), m.Room(peer), m.Got(peer)}
}

func wantNumbers(t *testing.T, m *link.Mux, peer int, want numbers) {
	t.Helper()
	if got := numbersOf(m, peer); got != want {
		t.Fatalf("L4, L9: of peer %d: %+v, want %+v", peer, got, want)
	}
}

// seen is what a Mux tells of one number without changing.
type seen struct {
	numbers
	frames []api.Frame
}

func look(m *link.Mux, peer int) seen { return seen{numbersOf(m, peer), m.Frames(peer)} }

func sameSeen(a, b seen) bool { return a.numbers == b.numbers && sameFrames(a.frames, b.frames) }

// hidden is what can be found out only by calls that change: whether an answer is owed, which pieces are kept ahead of their turn.
type hidden struct {
	ack  api.Ack
	owed bool
	come []string
}

// spend uses a Mux up.
func spend(m *link.Mux, peer, window int) hidden {
	var h hidden
	h.ack, h.owed = m.Owed(peer)
	for seq := m.Got(peer) + 1; ; seq++ {
		l, e := m.Take(peer, frame(m.Tag(), seq, "filler"))
		if e != api.OK || len(h.come) > window {
			return h
		}
		h.come = append(h.come, words(l))
	}
}

func sameHidden(a, b hidden) bool {
	return a.ack == b.ack && a.owed == b.owed && slices.Equal(a.come, b.come)
}

// wantSame holds two against each other in all that can be found out, also of numbers that are no peers', and uses them up.
func wantSame(t *testing.T, what string, window int, m, twin *link.Mux) {
	t.Helper()
	if m.Tag() != twin.Tag() {
		t.Errorf("%s: the tag is %v, want %v", what, m.Tag(), twin.Tag())
	}
	for p := -1; p <= api.MaxNodes; p++ {
		if got, want := look(m, p), look(twin, p); !sameSeen(got, want) {
			t.Errorf("%s: of %d it tells %v, want %v", what, p, got, want)
		}
	}
	for p := -1; p <= api.MaxNodes; p++ {
		if got, want := spend(m, p, window), spend(twin, p, window); !sameHidden(got, want) {
			t.Errorf("%s: of %d it keeps %v, want %v", what, p, got, want)
		}
	}
}

// wantUnchanged lets a busy Mux do what must change nothing.
func wantUnchanged(t *testing.T, what string, do func(m *link.Mux)) {
	t.Helper()
	m := busy(t)
	do(m)
	wantSame(t, what, 3, m, busy(t))
}

// busy is node 2 of four, window 3, room 5, with things under way to and from the peers 0 and 3.
func busy(t *testing.T) *link.Mux {
	t.Helper()
	m := joined(t, 4, 2, 3, 5, 0, 3)
	push(t, m, 0, "a", "b", "c", "d", "e")
	acked(t, m, 0, 1)
	push(t, m, 3, "v", "w", "x", "y", "z")
	take(t, m, 0, 1, "A", "A")
	take(t, m, 0, 3, "C", "")
	wantOwed(t, m, 0, api.Ack{Tag: tagT, Upto: 1}, true)
	take(t, m, 3, 3, "Z", "")
	take(t, m, 3, 2, "Y", "")
	return m
}

// strangers of busy: no peers' numbers.
func strangers() []int {
	return []int{1, 2, 4, 5, -1, -2, api.MaxNodes - 1, api.MaxNodes, api.MaxCount, math.MinInt, math.MaxInt}
}

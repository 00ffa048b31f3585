package group_test

import (
	"bytes"
	"fmt"
	"math/rand"
	"runtime"
	"slices"
	"testing"

	"quorate/api"
	"quorate/group"
)

// list is one that was answered, of whatever it may be.
type list interface {
	text() string // its spare room too
	scribble()
}

type listOf[T any] struct {
	l    []T
	with T
}

func (x listOf[T]) text() string { return fmt.Sprint(x.l[:cap(x.l)]) }

func (x listOf[T]) scribble() {
	l := x.l[:cap(x.l)]
	for k := range l {
		l[k] = x.with
	}
}

// told are the lists that a Group answered, each ahead of the lists in it.
type told []list

func (l *told) view(v api.View) { *l = append(*l, listOf[api.Member]{v.Members, api.Member{Pid: 7}}) }

func (l *told) notes(notes []api.Note) {
	*l = append(*l, listOf[api.Note]{notes, api.Note{Kind: 7}})
	for _, n := range slices.Clone(notes) {
		l.view(n.View)
		*l = append(*l, listOf[int]{n.Trans, 77}, listOf[byte]{n.Body, 'X'})
	}
}

func (l *told) outs(outs []api.Out) {
	*l = append(*l, listOf[api.Out]{outs, api.Out{Dst: 7}})
	for _, o := range slices.Clone(outs) {
		*l = append(*l, listOf[byte]{o.Bytes, 'X'})
	}
}

func (l told) texts() []string {
	var texts []string
	for _, x := range l {
		texts = append(texts, x.text())
	}
	return texts
}

// scribble writes over one list behind the other, and looks whether another one changes with it.
func (l told) scribble(t *testing.T) {
	t.Helper()
	want := l.texts()
	for k, x := range l {
		x.scribble()
		want[k] = x.text()
		if !slices.Equal(l.texts(), want) {
			t.Fatal("rule 5: two answers share memory")
		}
	}
}

// memoryNet: three Groups, what goes between them, and a log of all that they answer.
type memoryNet struct {
	groups []*group.Group
	flying []api.Out
	log    []string
	spoil  func(told)   // what becomes of answers when they were read
	after  func([]byte) // what becomes of an argument behind the call
}

func (m *memoryNet) say(a ...any) { m.log = append(m.log, fmt.Sprint(a...)) }

// hand hands bytes in, with spare room, and looks that they stay.
func (m *memoryNet) hand(t *testing.T, b []byte, call func([]byte)) {
	t.Helper()
	wide := append(slices.Clone(b), "spare"...)
	call(wide[:len(b)])
	if !bytes.Equal(wide[:len(b)], b) || string(wide[len(b):]) != "spare" {
		t.Fatal("rule 5: what was handed in is changed")
	}
	m.after(wide)
}

// round: all that is flying is received, but for what is lost; all send, tick and are polled.
func (m *memoryNet) round(t *testing.T, r *rand.Rand, lost func(src, dst int) bool) {
	t.Helper()
	flying := m.flying
	m.flying = nil
	for _, o := range flying {
		p := packets(t, []api.Out{o})[0]
		if !lost(p.Src, p.Dst) {
			m.hand(t, o.Bytes, func(b []byte) { m.say(m.groups[o.Dst].Receive(b)) })
		}
	}
	var l told
	for p, g := range m.groups {
		m.hand(t, bytes.Repeat([]byte{byte('a' + r.Intn(26))}, r.Intn(300)), func(b []byte) { m.say(g.Send(b)) })
		outs, e := g.Tick()
		m.say(p, outs, e, g.View(), g.View(), g.Queue(), g.Blocked())
		for _, o := range outs {
			m.flying = append(m.flying, api.Out{Dst: o.Dst, Bytes: slices.Clone(o.Bytes)})
		}
		notes := g.Poll()
		m.say(notes)
		l.outs(outs)
		l.notes(notes)
		l.view(g.View())
		l.view(g.View())
	}
	m.spoil(l)
}

// memoryLog plays the same story each time.
func memoryLog(t *testing.T, spoil func(told), after func([]byte)) []string {
	t.Helper()
	r := rand.New(rand.NewSource(6))
	c := config(3, 2, 2, 1, 4)
	m := &memoryNet{spoil: spoil, after: after}
	for p := range 3 {
		m.groups = append(m.groups, made(t, c, p, 1))
	}
	clear(c.Votes) // a configuration is not kept
	weather := story{r: r, c: c}
	for range 12 {
		lost := weather.weather()
		for range 8 {
			m.round(t, r, lost)
		}
	}
	return m.log
}

func TestSharesNothing(t *testing.T) {
	want := memoryLog(t, func(told) {}, func([]byte) {})
	if !slices.ContainsFunc(want, func(s string) bool { return bytes.Contains([]byte(s), []byte("{3 ")) }) {
		t.Fatal("the test is too weak")
	}
	got := memoryLog(t, func(l told) { l.scribble(t) }, func(b []byte) {
		for i := range b {
			b[i] = 'Y'
		}
	})
	for i := range want {
		if got[i] != want[i] {
			t.Fatalf("rule 5: with answers and arguments written over, answer %d is %s, want %s", i, got[i], want[i])
		}
	}
}

// TestTellingChangesNothing: rule 7.
func TestTellingChangesNothing(t *testing.T) {
	for state, begin := range states(t) {
		wantUnchanged(t, "rule 7: "+state, begin, func(h *hand) {
			for range 5 {
				h.g.View()
				h.g.Blocked()
				h.g.Halted()
				h.g.Queue()
			}
		})
	}
}

// TestPollTakesOut: rule 7: each note is answered once.
func TestPollTakesOut(t *testing.T) {
	h := byHand(t, patient(2), 0, 3)
	h.tick()
	wantNotes(t, "G3", h.g, "install {1 0 3 1} [{0 3 1}] trans [0] lost 0")
	for range 3 {
		wantNotes(t, "G3: nothing is told twice", h.g, "")
	}
}

// TestGroupsApart: rule 6: what one Group is given changes nothing at another.
func TestGroupsApart(t *testing.T) {
	for state, begin := range states(t) {
		wantUnchanged(t, "rule 6: "+state, begin, func(*hand) {
			other, v := inPair(t, 0)
			sendMany(t, other, 1, 3)
			other.tick()
			other.propose(1, 5, leaving(v, 9, 0), api.OK)
			other.tick()
			other.g.Poll()
			other.g.Leave()
			other.tick()
		})
	}
}

func heapInUse() int {
	runtime.GC()
	var s runtime.MemStats
	runtime.ReadMemStats(&s)
	return int(s.HeapAlloc)
}

// TestKeepsLittle: rule 8: what Groups keep does not grow with what has gone through them.
func TestKeepsLittle(t *testing.T) {
	n := rounds(t, config(3, 4, 2, 1, 4))
	blob := make([]byte, api.MaxBlob)
	through := func(count int) int {
		for k := range count {
			n.go1(t, func(p api.Packet) bool { return k%40 > 30 && p.Dst != 0 })
			for _, g := range n.groups {
				g.Send(blob)
				g.Poll()
			}
		}
		for range 60 {
			n.go1(t, nil)
			for _, g := range n.groups {
				g.Poll()
			}
		}
		return heapInUse()
	}
	before := through(80)
	if grown := through(1500) - before; grown > 200000 {
		t.Errorf("rule 8: behind 1500 rounds three Groups keep %d bytes more", grown)
	}
	runtime.KeepAlive(n)
}

// TestKeepsNoArgument: bytes may be the beginning of something great that is not to be kept alive.
func TestKeepsNoArgument(t *testing.T) {
	var l []*hand
	before := heapInUse()
	for range 20 {
		h, v := inPair(t, 0)
		for kind, p := range oneOfEach(t, v) {
			b := text(t, h.sent(1, 5, kind, p))
			wide := make([]byte, 1<<19)
			h.g.Receive(wide[:copy(wide, b)])
		}
		h.g.Send(make([]byte, 1<<19)[:1])
		l = append(l, h)
	}
	if grown := heapInUse() - before; grown > 8<<20 {
		t.Errorf("rule 5: of what was handed in %d bytes are kept", grown)
	}
	runtime.KeepAlive(l)
}

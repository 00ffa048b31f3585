package node_test

import (
	"bytes"
	"fmt"
	"math/rand"
	"runtime"
	"slices"
	"strings"
	"testing"

	"quorate/api"
	"quorate/ether"
	"quorate/journal"
	"quorate/node"
)

// answer is a list that was answered, of whatever it may be.
type answer interface {
	text() string // its spare room too
	scribble()
}

type answerOf[T any] struct {
	l    []T
	with T
}

func (x answerOf[T]) text() string { return fmt.Sprint(x.l[:cap(x.l)]) }

func (x answerOf[T]) scribble() {
	l := x.l[:cap(x.l)]
	for k := range l {
		l[k] = x.with
	}
}

// answers are lists that nodes answered, each ahead of the lists in it.
type answers []answer

func (l *answers) bytes(b []byte) { *l = append(*l, answerOf[byte]{b, 'X'}) }

func (l *answers) members(m []api.Member) {
	*l = append(*l, answerOf[api.Member]{m, api.Member{Pid: 7}})
}

func (l *answers) output(o api.Output) {
	*l = append(*l, answerOf[api.Out]{o.Out, api.Out{Dst: 7}}, answerOf[api.Mark]{o.Marks, api.Mark{Kind: 77}}, answerOf[api.Write]{o.Write, api.Write{File: 7}})
	for _, x := range slices.Clone(o.Out) {
		l.bytes(x.Bytes)
	}
	for _, x := range slices.Clone(o.Write) {
		l.bytes(x.Bytes)
	}
	for _, m := range slices.Clone(o.Marks) {
		l.bytes(m.Body)
		l.members(m.Members)
		*l = append(*l, answerOf[int]{m.Trans, 77})
	}
}

func (l answers) texts() []string {
	var texts []string
	for _, x := range l {
		texts = append(texts, x.text())
	}
	return texts
}

// scribble writes over one list behind the other, and looks whether another one changes with it.
func (l answers) scribble(t *testing.T) {
	t.Helper()
	want := l.texts()
	for k, x := range l {
		x.scribble()
		want[k] = x.text()
		if !slices.Equal(l.texts(), want) {
			t.Fatal("rule 5: two answers share memory")
		}
	}
}

// memoryNet: three nodes, the network between them, and a log of all that they answer.
type memoryNet struct {
	t     *testing.T
	ether *ether.Net
	nodes []*node.Node
	disks []api.Disk
	log   []string
	spoil func(*testing.T, answers) // what becomes of answers when they were read
	after func([]byte)              // what becomes of an argument behind the call
}

// hand hands bytes in, with spare room, and looks that they stay.
func (m *memoryNet) hand(b []byte, call func([]byte)) {
	m.t.Helper()
	wide := append(slices.Clone(b), "spare"...)
	call(wide[:len(b)])
	if !bytes.Equal(wide[:len(b)], b) || string(wide[len(b):]) != "spare" {
		m.t.Fatal("rule 5: what was handed in is changed")
	}
	m.after(wide)
}

// use does with an output what a world does, and then lets it be spoilt.
func (m *memoryNet) use(p int, o api.Output) {
	m.t.Helper()
	m.log = append(m.log, fmt.Sprint(p, o))
	m.disks[p] = journal.Apply(m.disks[p], o.Write, -1)
	for _, x := range o.Out {
		m.ether.Post(p, x.Dst, x.Bytes)
	}
	var l answers
	l.output(o)
	if n := m.nodes[p]; n != nil {
		m.log = append(m.log, fmt.Sprint(n.View(), n.View(), n.Status(), n.Halted()))
		l.members(n.View().Members)
		l.members(n.View().Members)
	}
	m.spoil(m.t, l)
}

func (m *memoryNet) boot(p, inc int) {
	m.t.Helper()
	c := config(3)
	c.Votes = append(c.Votes, 9, 9)[:3]
	m.hand(m.disks[p].A, func(a []byte) {
		m.hand(m.disks[p].B, func(b []byte) {
			n, o := made(m.t, c, p, inc, api.Disk{A: a, B: b})
			m.nodes[p] = nil
			m.use(p, o)
			m.nodes[p] = n
		})
	})
	if !slices.Equal(c.Votes[:5], []int{1, 1, 1, 9, 9}) {
		m.t.Fatal("rule 5: the votes that were handed in are changed")
	}
	clear(c.Votes)
}

func (m *memoryNet) step(p int, in api.Input) {
	m.t.Helper()
	m.hand(in.Bytes, func(b []byte) {
		in.Bytes = b
		m.use(p, m.nodes[p].Step(in))
	})
}

// memoryLog plays the same story each time.
func memoryLog(t *testing.T, spoil func(*testing.T, answers), after func([]byte)) []string {
	t.Helper()
	r := rand.New(rand.NewSource(6))
	m := &memoryNet{t: t, nodes: make([]*node.Node, 3), disks: []api.Disk{{}, sized(1, 16000), {}}, spoil: spoil, after: after}
	m.ether, _ = ether.New(3, 5000)
	for p := range m.nodes {
		m.boot(p, 1)
	}
	for k := range 120 {
		for _, f := range m.ether.Round() {
			m.step(f.Dst, packet(f.Bytes))
		}
		for p := range m.nodes {
			m.step(p, tick)
			m.step(p, api.Input{Kind: api.InDo, Cmd: someCommand(r)})
			m.step(p, api.Input{Kind: api.InSend, Bytes: bytes.Repeat([]byte{byte('a' + k%26)}, r.Intn(400))})
		}
		switch k % 40 {
		case 15:
			m.ether.Do(api.Event{Kind: api.EvSplit, Sides: []int{0, 1, 1}})
		case 30:
			m.ether.Do(api.Event{Kind: api.EvSplit, Sides: []int{0, 0, 0}})
		case 39:
			m.ether.Crash(k % 3)
			inc, _ := m.ether.Restart(k % 3)
			m.boot(k%3, inc)
		}
	}
	return m.log
}

// TestSharesNothing: P2 and rule 5.
func TestSharesNothing(t *testing.T) {
	want := memoryLog(t, func(*testing.T, answers) {}, func([]byte) {})
	got := memoryLog(t, func(t *testing.T, l answers) { l.scribble(t) }, func(b []byte) {
		for i := range b {
			b[i] = 'Y'
		}
	})
	for i := range want {
		if got[i] != want[i] {
			t.Fatalf("rule 5: with answers and arguments written over, answer %d is %.2000s, want %.2000s", i, got[i], want[i])
		}
	}
	all := strings.Join(want, "\n")
	if strings.Count(all, "{3 ") == 0 || len(want) < 2000 {
		t.Error("the test is too weak")
	}
}

// TestAnswersStay: rule 5: what was answered stays as it was, whatever comes then.
func TestAnswersStay(t *testing.T) {
	var all answers
	var texts []string
	memoryLog(t, func(_ *testing.T, l answers) {
		all = append(all, l...)
		texts = append(texts, l.texts()...)
	}, func(b []byte) { clear(b) })
	if !slices.Equal(all.texts(), texts) {
		t.Error("rule 5: an answer has changed behind its call")
	}
}

// TestTellingChangesNothing: rule 7 and P15.8.
func TestTellingChangesNothing(t *testing.T) {
	plain, r := alone(t), alone(t)
	rnd := rand.New(rand.NewSource(2))
	for range 200 {
		for range 3 {
			r.View()
			r.Status()
			r.Halted()
		}
		in := []api.Input{tick, send("x"), do(api.OpAdd, "n", "1"), packet(nil)}[rnd.Intn(4)]
		if a, b := r.step(in), plain.step(in); !sameOutput(a, b) || r.Status() != plain.Status() {
			t.Fatalf("rule 7: Step(%+v) = %+v, want %+v", in, a, b)
		}
	}
}

// TestNodesApart: rule 6: what one node is given changes nothing at another.
func TestNodesApart(t *testing.T) {
	plain, r := alone(t), alone(t)
	rnd := rand.New(rand.NewSource(3))
	for range 60 {
		h := byHand(t, rnd.Intn(2))
		h.activate()
		h.step(do(api.OpSet, "a", "y"))
		h.step(leave)
		h.tick()
		in := []api.Input{tick, send("x"), do(api.OpAdd, "n", "1")}[rnd.Intn(3)]
		if a, b := r.step(in), plain.step(in); !sameOutput(a, b) {
			t.Fatalf("rule 6: Step(%+v) = %+v, want %+v", in, a, b)
		}
	}
}

func heapInUse() int {
	runtime.GC()
	runtime.GC()
	var s runtime.MemStats
	runtime.ReadMemStats(&s)
	return int(s.HeapAlloc)
}

// TestKeepsNoArgument: rule 5: bytes and texts may be the beginning of something great that is not to be kept alive, by the node or by its answers.
func TestKeepsNoArgument(t *testing.T) {
	var nodes []*rig
	var told []api.Output
	before := heapInUse()
	for range 20 {
		wide := strings.Repeat("7", 1<<19)
		r := alone(t)
		for _, in := range []api.Input{
			{Kind: api.InSend, Bytes: []byte(wide)[:1]}, {Kind: api.InPacket, Bytes: []byte(wide)[:9]},
			do(api.OpCas, wide[:8], wide[10:18], wide[20:28]), do(api.OpCas, wide[1:9], wide[11:19], wide[21:29]), do(77, wide[:3], wide[:2], wide[:1]),
		} {
			told = append(told, r.Step(in))
		}
		nodes = append(nodes, r)
	}
	if grown := heapInUse() - before; grown > 4<<20 {
		t.Errorf("rule 5: of what was handed in %d bytes are kept", grown)
	}
	runtime.KeepAlive(nodes)
	runtime.KeepAlive(told)
}

// TestKeepsLittle: rule 8 and P12: what a node keeps does not grow with what has gone through it.
func TestKeepsLittle(t *testing.T) {
	r := alone(t)
	work := func() int {
		for k := range 3000 {
			r.step(send(strings.Repeat("x", k%600)))
			r.step(do(api.OpAdd, "n", "1"))
			r.step(tick)
		}
		return heapInUse()
	}
	before := work()
	if grown := work() - before; grown > 100000 {
		t.Errorf("rule 8: it keeps %d bytes more", grown)
	}
	if s := r.Status(); s.Base != 6000 || r.Halted() {
		t.Errorf("P9: %+v", s)
	}
	if n := max(len(r.disk.A), len(r.disk.B)); n > 17000 {
		t.Errorf("P15.2: the journal has %d bytes", n)
	}
	runtime.KeepAlive(r)
}

package world_test

import (
	"slices"
	"testing"

	"quorate/api"
	"quorate/ether"
	"quorate/node"
	"quorate/wire"
)

// model plays a script in the words of 16.2 and 16.3, one thing behind the other, and lets others look on.
type model struct {
	t     testing.TB
	c     api.Config
	net   *ether.Net
	nodes []*node.Node // nil: none is there
	disks []api.Disk
	at    int
	trace []api.Mark
	heard map[[3]int]int // by node, its incarnation and a sender: the greatest incarnation of which it accepted a beat
	ahead func()         // called ahead of each event
	steps int
}

func modelOf(t testing.TB, c api.Config) *model {
	t.Helper()
	n, e := ether.New(c.Nodes, c.Room)
	if e != api.OK {
		t.Fatalf("no network: error %d", e)
	}
	return &model{t: t, c: c, net: n, nodes: make([]*node.Node, c.Nodes), disks: make([]api.Disk, c.Nodes), heard: map[[3]int]int{}, ahead: func() {}}
}

// play plays a whole script; the trace.
func (m *model) play(events []api.Event) []api.Mark {
	m.t.Helper()
	for p := range m.c.Nodes {
		m.begins(p, 1)
	}
	for i, e := range events {
		m.at = i + 1
		m.ahead()
		m.event(e)
		m.wantBounds()
	}
	return m.trace
}

// wantBounds: P12.
func (m *model) wantBounds() {
	m.t.Helper()
	if n := len(m.net.Flights()); n > m.c.Room {
		m.t.Fatalf("P12: %d packets on their way, there is room for %d", n, m.c.Room)
	}
	for p, d := range m.disks {
		if len(d.A) > api.MaxFile || len(d.B) > api.MaxFile {
			m.t.Fatalf("P12: the files of node %d have %d and %d bytes", p, len(d.A), len(d.B))
		}
	}
}

func (m *model) isNode(p int) bool { return p >= 0 && p < m.c.Nodes }

func (m *model) isUp(p int) bool { return m.isNode(p) && m.nodes[p] != nil }

// units makes writes unit by unit, until so many are made.
func (m *model) units(p int, ws []api.Write, n int) {
	for _, w := range ws {
		file := []*[]byte{&m.disks[p].A, &m.disks[p].B}[w.File]
		if w.Start && n > 0 {
			*file = nil
			n--
		} else if w.Start {
			return
		}
		for _, b := range w.Bytes {
			if n == 0 {
				return
			}
			*file = append(*file, b)
			n--
		}
	}
}

// every is more units than a step's writes have.
const every = 1 << 40

func (m *model) tell(k api.Mark) {
	k.At = m.at
	m.trace = append(m.trace, k)
}

func (m *model) begins(p, inc int) {
	m.t.Helper()
	n, o, e := node.New(m.c, p, inc, m.disks[p])
	if e != api.OK {
		if m.net.Crash(p) != api.OK {
			m.t.Fatal("P16.3: a node that could not begin is not up")
		}
		return
	}
	m.nodes[p] = n
	m.units(p, o.Write, every)
	for _, k := range o.Marks {
		m.tell(k)
	}
	if len(o.Out) > 0 || len(o.Marks) == 0 || o.Marks[0].Kind != api.MarkBoot || o.Marks[0].Inc != inc {
		m.t.Fatalf("P16.3: a node begins with %+v", o)
	}
}

func (m *model) step(p int, in api.Input) {
	m.steps++
	o := m.nodes[p].Step(in)
	if in.Kind == api.InPacket && o.Err == api.OK {
		m.hear(p, in.Bytes)
	}
	m.units(p, o.Write, every)
	for _, k := range o.Marks {
		m.tell(k)
	}
	for _, x := range o.Out {
		if _, e := m.net.Post(p, x.Dst, x.Bytes); e == api.ErrRoom {
			m.tell(api.Mark{Kind: api.MarkFull, Node: p, Inc: m.net.Inc(p), N: x.Dst})
		}
	}
}

// hear keeps which incarnation an accepted beat was of.
func (m *model) hear(p int, b []byte) {
	if k, e := wire.Decode(b); e == api.OK && k.Kind == api.KindBeat {
		at := [3]int{p, m.net.Inc(p), k.Src}
		m.heard[at] = max(m.heard[at], k.SrcInc)
	}
}

func (m *model) tick(p int) {
	m.net.Tick(p)
	m.step(p, api.Input{Kind: api.InTick})
}

func (m *model) crash(p int) {
	m.tell(api.Mark{Kind: api.MarkCrash, Node: p, Inc: m.net.Inc(p)})
	m.net.Crash(p)
	m.nodes[p] = nil
}

func (m *model) round() {
	l := m.net.Round()
	m.tell(api.Mark{Kind: api.MarkRound, N: m.net.Clock()})
	for _, f := range l {
		if m.isUp(f.Dst) {
			m.step(f.Dst, api.Input{Kind: api.InPacket, Bytes: f.Bytes})
		}
	}
	for p := range m.c.Nodes {
		if m.isUp(p) {
			m.tick(p)
		}
	}
}

func (m *model) event(e api.Event) {
	m.t.Helper()
	networks := []int{api.EvCut, api.EvHeal, api.EvDelay, api.EvSplit, api.EvDrop, api.EvDup, api.EvHold, api.EvFlip, api.EvInject}
	up := m.isUp(e.A)
	switch {
	case e.Kind == api.EvRound:
		m.round()
	case e.Kind == api.EvTick && up:
		m.tick(e.A)
	case e.Kind == api.EvSend && up:
		m.step(e.A, api.Input{Kind: api.InSend, Bytes: e.Body})
	case e.Kind == api.EvDo && up:
		m.step(e.A, api.Input{Kind: api.InDo, Cmd: e.Cmd})
	case e.Kind == api.EvLeave && up:
		m.step(e.A, api.Input{Kind: api.InLeave})
	case e.Kind == api.EvCrash && up:
		m.crash(e.A)
	case e.Kind == api.EvRestart && m.isNode(e.A) && !up:
		inc, _ := m.net.Restart(e.A)
		m.begins(e.A, inc)
	case e.Kind == api.EvTear && up && e.N >= 0:
		m.net.Tick(e.A)
		o := m.nodes[e.A].Step(api.Input{Kind: api.InTick})
		m.units(e.A, o.Write, e.N)
		m.crash(e.A)
	case e.Kind == api.EvNow:
		if f, err := m.net.Take(e.A); err == api.OK && m.isUp(f.Dst) {
			m.step(f.Dst, api.Input{Kind: api.InPacket, Bytes: f.Bytes})
		}
	case slices.Contains(networks, e.Kind):
		m.net.Do(e)
	}
}

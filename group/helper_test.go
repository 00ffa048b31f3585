package group_test

import (
	"bytes"
	"fmt"
	"math"
	"slices"
	"strings"
	"testing"

	"quorate/api"
	"quorate/group"
	"quorate/wire"
)

// config: one vote each.
func config(nodes, window, base, step, limit int) api.Config {
	c := api.Config{Nodes: nodes, Window: window, Base: base, Step: step, Cap: limit, Room: 100}
	for range nodes {
		c.Votes = append(c.Votes, 1)
	}
	return c
}

// usual: the configuration of the chapter's examples, for so many nodes.
func usual(nodes int) api.Config { return config(nodes, 2, 2, 1, 8) }

func made(t *testing.T, c api.Config, self, inc int) *group.Group {
	t.Helper()
	g, e := group.New(c, self, inc)
	if g == nil || e != api.OK {
		t.Fatalf("G1: New(%+v, %d, %d): error %d, want a Group", c, self, inc, e)
	}
	return g
}

// word tells a note in short.
func word(n api.Note) string {
	switch n.Kind {
	case api.NoteBlock:
		return "block"
	case api.NoteInstall:
		return fmt.Sprintf("install %v %v trans %v lost %d", n.View.ID, n.View.Members, n.Trans, n.Lost)
	case api.NoteDeliver:
		return fmt.Sprintf("deliver %d.%d @%d %s", n.Sender, n.Seq, n.Pos, short(n.Body))
	case api.NoteSafe:
		return fmt.Sprintf("safe %d", n.Pos)
	case api.NoteHalt:
		return "halt"
	}
	return fmt.Sprintf("%+v", n)
}

// short: a long body's length and its beginning.
func short(b []byte) string {
	if len(b) <= 20 {
		return string(b)
	}
	return fmt.Sprintf("%s..(%d)", b[:8], len(b))
}

func words(l []api.Note) string {
	var s []string
	for _, n := range l {
		s = append(s, word(n))
	}
	return strings.Join(s, "; ")
}

// plain: a note as its kind's fields make it; what is left of it must be zero.
func plain(n api.Note) api.Note {
	switch n.Kind {
	case api.NoteInstall:
		return api.Note{Kind: n.Kind, View: n.View, Trans: n.Trans, Lost: n.Lost}
	case api.NoteDeliver:
		return api.Note{Kind: n.Kind, Sender: n.Sender, Seq: n.Seq, Pos: n.Pos, Body: n.Body}
	case api.NoteSafe:
		return api.Note{Kind: n.Kind, Pos: n.Pos}
	}
	return api.Note{Kind: n.Kind}
}

func sameView(a, b api.View) bool { return a.ID == b.ID && slices.Equal(a.Members, b.Members) }

func sameNote(a, b api.Note) bool {
	return a.Kind == b.Kind && sameView(a.View, b.View) && slices.Equal(a.Trans, b.Trans) && a.Lost == b.Lost &&
		a.Sender == b.Sender && a.Seq == b.Seq && a.Pos == b.Pos && bytes.Equal(a.Body, b.Body)
}

func sameOut(a, b api.Out) bool { return a.Dst == b.Dst && bytes.Equal(a.Bytes, b.Bytes) }

// wantNotes polls and holds the notes against words, and each note's other fields against zero.
func wantNotes(t *testing.T, what string, g *group.Group, want string) {
	t.Helper()
	l := g.Poll()
	if got := words(l); got != want {
		t.Fatalf("%s: the notes are %q, want %q", what, got, want)
	}
	for _, n := range l {
		if !sameNote(n, plain(n)) {
			t.Fatalf("G3: a note of kind %d has fields that are not its own: %+v", n.Kind, n)
		}
	}
}

func wantReceive(t *testing.T, what string, g *group.Group, p api.Packet, want api.Errno) {
	t.Helper()
	if e := g.Receive(text(t, p)); e != want {
		t.Fatalf("%s: Receive(%+v): error %d, want %d", what, p, e, want)
	}
}

func wantSend(t *testing.T, what string, g *group.Group, blob []byte, want int, e api.Errno) {
	t.Helper()
	if n, got := g.Send(blob); n != want || got != e {
		t.Fatalf("%s: Send of %d bytes = %d, error %d, want %d, error %d", what, len(blob), n, got, want, e)
	}
}

func wantQueue(t *testing.T, what string, g *group.Group, want int) {
	t.Helper()
	if n := g.Queue(); n != want {
		t.Fatalf("%s: Queue = %d, want %d", what, n, want)
	}
}

func wantBlocked(t *testing.T, what string, g *group.Group, want bool) {
	t.Helper()
	if g.Blocked() != want {
		t.Fatalf("%s: Blocked = %v, want %v", what, g.Blocked(), want)
	}
}

// ticked: what a tick gives out.
func ticked(t *testing.T, g *group.Group) []api.Out {
	t.Helper()
	l, e := g.Tick()
	if e != api.OK {
		t.Fatalf("G6: Tick: error %d", e)
	}
	return l
}

func text(t *testing.T, p api.Packet) []byte {
	t.Helper()
	b, e := wire.Encode(p)
	if e != api.OK {
		t.Fatalf("the test's packet %+v is none: error %d", p, e)
	}
	return b
}

// packets reads what a tick gave out: each one whole, to the node that its Head names.
func packets(t *testing.T, l []api.Out) []api.Packet {
	t.Helper()
	var list []api.Packet
	for _, o := range l {
		p, e := wire.Decode(o.Bytes)
		if e != api.OK || p.Dst != o.Dst {
			t.Fatalf("G6: an Out to %d is %+v, error %d", o.Dst, p, e)
		}
		list = append(list, p)
	}
	return list
}

var kindNames = map[int]string{
	api.KindBeat: "beat", api.KindPropose: "propose", api.KindFlush: "flush", api.KindStable: "stable",
	api.KindFrame: "frame", api.KindAck: "ack", api.KindForward: "forward",
}

// kinds: to whom, what kind.
func kinds(l []api.Packet) string {
	var s []string
	for _, p := range l {
		s = append(s, fmt.Sprintf("%d:%s", p.Dst, kindNames[p.Kind]))
	}
	return strings.Join(s, " ")
}

func wantKinds(t *testing.T, what string, l []api.Packet, want string) {
	t.Helper()
	if got := kinds(l); got != want {
		t.Fatalf("%s: the packets are %q, want %q", what, got, want)
	}
}

// first: the first packet of a kind to a node.
func first(t *testing.T, l []api.Packet, dst, kind int) api.Packet {
	t.Helper()
	for _, p := range l {
		if p.Dst == dst && p.Kind == kind {
			return p
		}
	}
	t.Fatalf("no %s to node %d among %s", kindNames[kind], dst, kinds(l))
	return api.Packet{}
}

// far: numbers that no count is.
func far() []int { return []int{math.MinInt, -api.MaxCount, -1, api.MaxCount + 1, math.MaxInt} }

// round: Groups of one configuration, one a node, and what their last ticks gave out.
type round struct {
	groups []*group.Group
	out    [][]api.Out
}

func rounds(t *testing.T, c api.Config) *round {
	t.Helper()
	n := &round{}
	for p := range c.Nodes {
		n.groups = append(n.groups, made(t, c, p, 1))
		n.out = append(n.out, nil)
	}
	return n
}

// go1 lets one round go by: all that is not lost is received, then all tick, by rising number.
func (n *round) go1(t *testing.T, lost func(p api.Packet) bool) {
	t.Helper()
	for _, l := range n.out {
		for _, p := range packets(t, l) {
			if lost == nil || !lost(p) {
				n.groups[p.Dst].Receive(text(t, p))
			}
		}
	}
	for p, g := range n.groups {
		n.out[p] = ticked(t, g)
	}
}

// settled lets rounds go by till all are in one view, and takes the notes out.
func (n *round) settled(t *testing.T) {
	t.Helper()
	for range 6 {
		n.go1(t, nil)
		for _, g := range n.groups {
			g.Poll()
		}
	}
	for p, g := range n.groups {
		if len(g.View().Members) != len(n.groups) || g.Blocked() {
			t.Fatalf("G15: node %d is in %+v behind six calm rounds", p, g.View())
		}
	}
}

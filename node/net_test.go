package node_test

import (
	"math/rand"
	"slices"
	"testing"

	"quorate/api"
	"quorate/ether"
	"quorate/journal"
)

// net: nodes with their models and disks, over a network.
type net struct {
	t     testing.TB
	r     *rand.Rand
	c     api.Config
	ether *ether.Net
	at    []*twins // nil: the node is down
	left  []bool
	disks []api.Disk
	told  []api.Mark // their At is the round
	pool  [][]byte   // packets that were sent once
	seen  map[string]int
	watch func(m api.Mark) // looks at each mark that is told
	false bool             // altered packets come too
	tears bool             // what torn steps would leave is looked at
}

func netOf(t testing.TB, r *rand.Rand, c api.Config, disks []api.Disk, seen map[string]int) *net {
	t.Helper()
	e, _ := ether.New(c.Nodes, c.Room)
	n := &net{t: t, r: r, c: c, ether: e, at: make([]*twins, c.Nodes), left: make([]bool, c.Nodes), disks: disks, seen: seen, watch: func(api.Mark) {}}
	return n
}

func (n *net) begin() {
	n.t.Helper()
	for p := range n.at {
		n.boot(p)
	}
}

// boot begins the present incarnation of a node; one that cannot begin is down.
func (n *net) boot(p int) {
	n.t.Helper()
	x, o := twinned(n.t, n.c, p, n.ether.Inc(p), n.disks[p])
	if x == nil {
		n.ether.Crash(p)
		return
	}
	x.m.looks = n.tears
	n.at[p], n.disks[p], n.left[p] = x, x.disk, false
	n.tell(o.Marks)
}

func (n *net) tell(marks []api.Mark) {
	for _, m := range marks {
		m.At = n.ether.Clock()
		n.told = append(n.told, m)
		if m.Kind == api.MarkLeave {
			n.left[m.Node] = true
		}
		n.seen[[]string{"", "boots", "crashes", "halts", "sends", "refusals", "blocks", "installs", "deliveries", "safes", "adopts", "commands", "entries", "answers", "", "", "leaves"}[m.Kind]]++
		n.watch(m)
	}
}

// step lets a node that is up do one.
func (n *net) step(p int, in api.Input) api.Output {
	n.t.Helper()
	x := n.at[p]
	before := x.disk
	o := x.step(in)
	n.disks[p] = x.disk
	if n.tears && len(o.Write) > 0 && n.r.Intn(8) == 0 {
		n.wantTorn(x, before, o)
	}
	n.tell(o.Marks)
	for _, out := range o.Out {
		if len(out.Bytes) > api.MaxPacket || out.Dst == p {
			n.t.Fatalf("P12: a packet of %d bytes from %d to %d", len(out.Bytes), p, out.Dst)
		}
		if _, e := n.ether.Post(p, out.Dst, out.Bytes); e == api.ErrRoom {
			n.seen["full"]++
		}
		if n.r.Intn(50) == 0 {
			n.pool = append(n.pool, slices.Clone(out.Bytes))
		}
	}
	if x.m.group.Queue() > api.MaxQueue || len(o.Marks) > 4*(api.MaxNotes+api.MaxHeld) {
		n.t.Fatalf("P12: a queue of %d chunks, %d marks in one step", x.m.group.Queue(), len(o.Marks))
	}
	if o.Err == api.ErrHalted || o.Err == api.ErrSpent || o.Err == api.ErrLong {
		n.seen["behind halts"]++
	}
	return o
}

// tear ends a node in the midst of a tick's writes.
func (n *net) tear(p int) {
	n.t.Helper()
	x := n.at[p]
	before := x.disk
	o := x.step(tick)
	n.disks[p] = journal.Apply(before, o.Write, n.r.Intn(journal.Cost(o.Write)+1))
	n.ether.Crash(p)
	n.at[p] = nil
	n.seen["torn"]++
}

func (n *net) crash(p int) {
	n.ether.Crash(p)
	n.at[p] = nil
	n.seen["crashed"]++
}

func (n *net) restart(p int) {
	n.t.Helper()
	if _, e := n.ether.Restart(p); e == api.OK {
		n.boot(p)
	}
}

// round lets what is due arrive, and all tick; ask: what clients want in it.
func (n *net) round(ask func(p int)) {
	n.t.Helper()
	for _, f := range n.ether.Round() {
		if n.at[f.Dst] == nil {
			continue
		}
		if n.false && n.r.Intn(20) == 0 {
			f.Bytes = altered(n.r, f.Bytes, n.c.Nodes)
			n.seen["altered"]++
		}
		n.step(f.Dst, packet(f.Bytes))
	}
	for p, x := range n.at {
		if x == nil {
			continue
		}
		n.ether.Tick(p)
		n.step(p, tick)
		ask(p)
	}
}

// ask: a node's clients want something, now and then.
func (n *net) ask(p int) {
	n.t.Helper()
	if n.r.Intn(4) == 0 {
		n.step(p, api.Input{Kind: api.InDo, Cmd: someCommand(n.r)})
	}
	if n.r.Intn(6) == 0 {
		b := make([]byte, []int{0, 1, 20, 300, 1200, 3999, 4000}[n.r.Intn(7)])
		n.r.Read(b)
		n.step(p, api.Input{Kind: api.InSend, Bytes: b})
	}
}

// someCommand is mostly a valid one.
func someCommand(r *rand.Rand) api.Command {
	key := string(rune('a' + r.Intn(6)))
	return []api.Command{
		{Op: api.OpSet, Key: key, Val: string(rune('A' + r.Intn(26)))}, {Op: api.OpGet, Key: key}, {Op: api.OpAdd, Key: key, Val: "7"}, {Op: api.OpDel, Key: key},
		{Op: api.OpCas, Key: key, Val: "v", Old: "w"}, {Op: api.OpLock, Key: key}, {Op: api.OpUnlock, Key: key}, {Op: 77, Key: key}, {Op: api.OpGet},
		{Op: api.OpSet, Key: "12345678", Val: "87654321"},
	}[r.Intn(10)]
}

// disturb: something happens to the network, to packets, or to nodes.
func (n *net) disturb() {
	n.t.Helper()
	p, q := n.r.Intn(n.c.Nodes), n.r.Intn(n.c.Nodes)
	flights := len(n.ether.Flights())
	place := n.r.Intn(flights + 1)
	switch n.r.Intn(24) {
	case 0, 1:
		n.ether.Do(api.Event{Kind: api.EvCut, A: p, B: q})
	case 2, 3, 4:
		n.ether.Do(api.Event{Kind: api.EvHeal, A: p, B: q})
	case 5:
		n.ether.Do(api.Event{Kind: api.EvDelay, A: p, B: q, N: 1 + n.r.Intn(4)})
	case 6:
		sides := make([]int, n.c.Nodes)
		for i := range sides {
			sides[i] = n.r.Intn(2)
		}
		n.ether.Do(api.Event{Kind: api.EvSplit, Sides: sides})
	case 7, 8:
		n.ether.Do(api.Event{Kind: api.EvSplit, Sides: make([]int, n.c.Nodes)})
	case 9, 10:
		n.ether.Do(api.Event{Kind: api.EvDrop, A: place})
	case 11, 12:
		n.ether.Do(api.Event{Kind: api.EvDup, A: place})
	case 13:
		n.ether.Do(api.Event{Kind: api.EvHold, A: place, N: 1 + n.r.Intn(api.MaxDelay)})
	case 14:
		if f, e := n.ether.Take(place); e == api.OK && n.at[f.Dst] != nil {
			n.step(f.Dst, packet(f.Bytes))
		}
	default:
		n.disturbNode(p)
	}
}

func (n *net) disturbNode(p int) {
	n.t.Helper()
	if n.at[p] == nil {
		if n.r.Intn(2) == 0 {
			n.restart(p)
		}
		return
	}
	switch n.r.Intn(40) {
	case 0:
		n.crash(p)
	case 1, 2:
		n.tear(p)
	case 3:
		n.step(p, leave)
	case 4, 5, 6, 7:
		n.ether.Tick(p)
		n.step(p, tick)
	case 8:
		n.step(p, api.Input{Kind: n.r.Intn(12) - 3})
	default:
		if n.false && len(n.pool) > 0 {
			b := n.pool[n.r.Intn(len(n.pool))]
			for range 1 + n.r.Intn(3) {
				b = altered(n.r, b, n.c.Nodes)
			}
			n.step(p, packet(b))
			n.seen["altered"]++
		}
	}
}

// live lets so many spans of time go by: each begins with disturbances, and has quieter rounds then.
func (n *net) live(spans int) {
	n.t.Helper()
	for range spans {
		for range n.r.Intn(12) {
			n.disturb()
		}
		for range 4 + n.r.Intn(20) {
			n.round(n.ask)
			if n.r.Intn(6) == 0 {
				n.disturb()
			}
		}
	}
}

// drawnConfig: up to five nodes.
func drawnConfig(r *rand.Rand) api.Config {
	c := config(1 + r.Intn(5))
	c.Window = 1 + r.Intn(5)
	c.Cap = 2 + r.Intn(7)
	c.Base, c.Step = 1+r.Intn(min(3, c.Cap)), 1+r.Intn(c.Cap)
	c.Room = 20000
	c.Floor = r.Intn(3)
	if r.Intn(3) == 0 {
		for p := range c.Votes {
			c.Votes[p] = r.Intn(4)
		}
		c.Votes[r.Intn(c.Nodes)] = 1
	}
	return c
}

// drawnDisks: empty ones, or such as will soon be long.
func drawnDisks(r *rand.Rand, nodes int) []api.Disk {
	l := make([]api.Disk, nodes)
	for p := range l {
		if r.Intn(4) == 0 {
			l[p] = sized(1+r.Intn(3), 15000+r.Intn(1500))
		}
	}
	return l
}

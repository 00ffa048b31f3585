package world

import (
	"sync"

	"quorate/api"
	"quorate/ether"
	"quorate/journal"
	"quorate/node"
)

// allUnits: as many units of a step's writes as there are.
const allUnits = -1

// play is a script being played: the network, the disks, the nodes that are up.
type play struct {
	*ether.Net
	config  api.Config
	disks   []api.Disk
	runners []*runner // nil: the node is down
	running sync.WaitGroup
	at      int // the number of the event that happens
	trace   []api.Mark
}

// newPlay is asked for configurations that are valid, which the network takes.
func newPlay(c api.Config) *play {
	net, _ := ether.New(c.Nodes, c.Room)
	return &play{Net: net, config: c, disks: make([]api.Disk, c.Nodes), runners: make([]*runner, c.Nodes)}
}

// tell adds marks to the trace.
func (p *play) tell(marks ...api.Mark) {
	for _, m := range marks {
		m.At = p.at
		p.trace = append(p.trace, m)
	}
}

// write makes the first so many units of writes on a node's disk.
func (p *play) write(pid int, ws []api.Write, units int) {
	if len(ws) > 0 {
		p.disks[pid] = journal.Apply(p.disks[pid], ws, units)
	}
}

// beginAll lets the first incarnations begin.
func (p *play) beginAll() {
	for pid := range p.config.Nodes {
		p.begin(pid)
	}
}

// begin lets a node's present incarnation begin, out of its disk; one whose counters are spent is down.
func (p *play) begin(pid int) {
	n, out, e := node.New(p.config, pid, p.Inc(pid), p.disks[pid])
	if e != api.OK {
		p.Crash(pid)
		return
	}
	p.runners[pid] = run(n, &p.running)
	p.letOut(pid, out)
}

// letOut lets out what a node has made: what is told or sent must be on the disk by then.
func (p *play) letOut(pid int, out api.Output) {
	p.write(pid, out.Write, allUnits)
	p.tell(out.Marks...)
	for _, o := range out.Out {
		if _, e := p.Post(pid, o.Dst, o.Bytes); e == api.ErrRoom {
			p.tell(api.Mark{Kind: api.MarkFull, Node: pid, Inc: p.Inc(pid), N: o.Dst})
		}
	}
}

// goDown takes a node down; its disk stays.
func (p *play) goDown(pid int) {
	p.runners[pid].stop()
	p.runners[pid] = nil
	p.Crash(pid)
	p.tell(api.Mark{Kind: api.MarkCrash, Node: pid, Inc: p.Inc(pid)})
}

// end waits until all goroutines have ended.
func (p *play) end() {
	for _, r := range p.runners {
		if r != nil {
			r.stop()
		}
	}
	p.running.Wait()
}

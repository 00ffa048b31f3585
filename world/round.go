package world

import "quorate/api"

// round lets what is due arrive, and then all nodes that are up tick. What a node makes of it is seen by no other in the same round: so all of them work at the same time, and what they made is let out in the order of their turns.
func (p *play) round() {
	arrived := p.Round()
	p.tell(api.Mark{Kind: api.MarkRound, N: p.Clock()})
	steps := make([][]api.Input, p.config.Nodes)
	var turns []int
	for _, f := range arrived {
		steps[f.Dst] = append(steps[f.Dst], packetOf(f))
		turns = append(turns, f.Dst)
	}
	for pid := range p.config.Nodes {
		if p.Up(pid) {
			p.Tick(pid)
			steps[pid] = append(steps[pid], api.Input{Kind: api.InTick})
			turns = append(turns, pid)
		}
	}
	made := p.makeAll(steps)
	for _, pid := range turns {
		p.letOut(pid, made[pid][0])
		made[pid] = made[pid][1:]
	}
}

// makeAll lets all nodes that are up make their steps: by node what they made.
func (p *play) makeAll(steps [][]api.Input) [][]api.Output {
	for pid, r := range p.runners {
		if r != nil {
			r.inputs <- steps[pid]
		}
	}
	made := make([][]api.Output, len(p.runners))
	for pid, r := range p.runners {
		if r != nil {
			made[pid] = <-r.outputs
		}
	}
	return made
}

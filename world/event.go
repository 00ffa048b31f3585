package world

import "quorate/api"

// happen lets an event happen.
func (p *play) happen(e api.Event) {
	switch e.Kind {
	case api.EvRound:
		p.round()
	case api.EvTick, api.EvSend, api.EvDo, api.EvLeave, api.EvCrash, api.EvTear:
		if p.Up(e.A) {
			p.happenAt(e.A, e)
		}
	case api.EvRestart:
		p.restart(e.A)
	case api.EvNow:
		p.arriveNow(e.A)
	default:
		p.Do(e) // the network refuses what is no event of its own
	}
}

// happenAt lets an event happen at a node that is up.
func (p *play) happenAt(pid int, e api.Event) {
	switch e.Kind {
	case api.EvTick:
		p.Tick(pid)
		p.step(pid, api.Input{Kind: api.InTick})
	case api.EvSend:
		p.step(pid, api.Input{Kind: api.InSend, Bytes: e.Body})
	case api.EvDo:
		p.step(pid, api.Input{Kind: api.InDo, Cmd: e.Cmd})
	case api.EvLeave:
		p.step(pid, api.Input{Kind: api.InLeave})
	case api.EvCrash:
		p.goDown(pid)
	case api.EvTear:
		p.tear(pid, e.N)
	}
}

// step lets a node that is up make a step.
func (p *play) step(pid int, in api.Input) {
	p.letOut(pid, p.runners[pid].makeStep(in))
}

// tear lets a node go down in the midst of a tick's writes: nobody hears of the rest.
func (p *play) tear(pid, units int) {
	if units < 0 {
		return
	}
	p.Tick(pid)
	out := p.runners[pid].makeStep(api.Input{Kind: api.InTick})
	p.write(pid, out.Write, units)
	p.goDown(pid)
}

func (p *play) restart(pid int) {
	if _, e := p.Restart(pid); e == api.OK {
		p.begin(pid)
	}
}

// arriveNow lets a packet arrive ahead of its round.
func (p *play) arriveNow(place int) {
	if f, e := p.Take(place); e == api.OK {
		p.step(f.Dst, packetOf(f))
	}
}

// packetOf is how a node meets a packet that has arrived.
func packetOf(f api.Flight) api.Input {
	return api.Input{Kind: api.InPacket, Bytes: f.Bytes}
}

package ether

import "quorate/api"

// Do plays an event of paths and packets (EvCut to EvDup, EvHold to EvInject).
func (n *Net) Do(e api.Event) api.Errno {
	switch e.Kind {
	case api.EvCut, api.EvHeal, api.EvDelay:
		return n.doPath(e)
	case api.EvSplit:
		return n.split(e.Sides)
	case api.EvDrop, api.EvDup, api.EvHold, api.EvFlip:
		return n.doPacket(e)
	case api.EvInject:
		return n.inject(path{e.A, e.B}, e.Body)
	}
	return api.ErrArg
}

// doPath plays what is done to one path.
func (n *Net) doPath(e api.Event) api.Errno {
	way := path{e.A, e.B}
	if !n.isPath(way) {
		return api.ErrArg
	}
	if e.Kind == api.EvDelay {
		return n.setDelay(way, e.N)
	}
	n.setOpen(way, e.Kind == api.EvHeal)
	return api.OK
}

// doPacket plays what is done to one packet on its way.
func (n *Net) doPacket(e api.Event) api.Errno {
	if !n.isPlace(e.A) {
		return api.ErrNone
	}
	f := &n.flights[e.A]
	switch e.Kind {
	case api.EvDup:
		_, full := n.join(*f)
		return full
	case api.EvHold:
		return hold(f, e.N)
	case api.EvFlip:
		return flip(f, e.N)
	}
	n.drop(e.A)
	return api.OK
}

package ether

import (
	"slices"

	"quorate/api"
)

// pathOf is the path that a packet goes over.
func pathOf(f api.Flight) path { return path{f.Src, f.Dst} }

// copyBytes leaves no spare room behind the copy.
func copyBytes(b []byte) []byte {
	own := make([]byte, len(b))
	copy(own, b)
	return own
}

// copyFlight is a flight that shares no bytes with the one it was made of.
func copyFlight(f api.Flight) api.Flight {
	f.Bytes = copyBytes(f.Bytes)
	return f
}

// canCarry tells whether such a packet can be on such a path at all.
func (n *Net) canCarry(p path, b []byte) bool {
	return n.isPath(p) && len(b) <= api.MaxPacket
}

// Post puts a packet on its way; its number.
func (n *Net) Post(src, dst int, b []byte) (int, api.Errno) {
	way := path{src, dst}
	if !n.canCarry(way, b) {
		return 0, api.ErrArg
	}
	if !n.nodes[src].up {
		return 0, api.ErrDown
	}
	return n.launch(way, b)
}

// inject is a Post that does not ask whether the sender is up.
func (n *Net) inject(p path, b []byte) api.Errno {
	if !n.canCarry(p, b) {
		return api.ErrArg
	}
	_, e := n.launch(p, b)
	return e
}

// launch puts a packet that can be carried on its way.
func (n *Net) launch(p path, b []byte) (int, api.Errno) {
	if n.isCut(p) {
		return 0, api.ErrCut
	}
	return n.join(api.Flight{Src: p.src, Dst: p.dst, Due: n.clock + n.delay(p), Bytes: b})
}

// join puts a copy of a flight at the list's end, with a number of its own.
func (n *Net) join(f api.Flight) (int, api.Errno) {
	if len(n.flights) >= n.room {
		return 0, api.ErrRoom
	}
	n.last++
	f.Id = n.last
	n.flights = append(n.flights, copyFlight(f))
	return f.Id, api.OK
}

// Round begins the next round and takes out what arrives.
func (n *Net) Round() []api.Flight {
	n.clock++
	var arrived []api.Flight
	left := n.flights[:0]
	for _, f := range n.flights {
		if f.Due != n.clock {
			left = append(left, f)
		} else if n.barrier(f) == api.OK {
			arrived = append(arrived, f)
		}
	}
	// What stands behind the list's new end is not the network's any more.
	clear(n.flights[len(left):])
	n.flights = left
	return arrived
}

// barrier is what keeps a packet from arriving now.
func (n *Net) barrier(f api.Flight) api.Errno {
	if n.isCut(pathOf(f)) {
		return api.ErrCut
	}
	if !n.nodes[f.Dst].up {
		return api.ErrDown
	}
	return api.OK
}

// isPlace tells whether a packet has this place.
func (n *Net) isPlace(k int) bool { return 0 <= k && k < len(n.flights) }

// drop takes the packet out of a place that there is.
func (n *Net) drop(k int) { n.flights = slices.Delete(n.flights, k, k+1) }

// Take takes out the packet at a place, at once.
func (n *Net) Take(k int) (api.Flight, api.Errno) {
	if !n.isPlace(k) {
		return api.Flight{}, api.ErrNone
	}
	f := n.flights[k]
	if e := n.barrier(f); e != api.OK {
		return api.Flight{}, e
	}
	n.drop(k)
	return f, api.OK
}

// Flights lists what is on its way.
func (n *Net) Flights() []api.Flight {
	list := make([]api.Flight, len(n.flights))
	for k, f := range n.flights {
		list[k] = copyFlight(f)
	}
	return list
}

// hold lets a packet be due later.
func hold(f *api.Flight, rounds int) api.Errno {
	if rounds < 1 || rounds > api.MaxDelay {
		return api.ErrArg
	}
	f.Due += rounds
	return api.OK
}

// flip turns one bit of a packet.
func flip(f *api.Flight, bit int) api.Errno {
	if bit < 0 || bit/8 >= len(f.Bytes) {
		return api.ErrArg
	}
	f.Bytes[bit/8] ^= 1 << (bit % 8)
	return api.OK
}

package ether

import "quorate/api"

// firstDelay is what a path has that no event gave another delay.
const firstDelay = 1

// path: from one node to another.
type path struct {
	src, dst int
}

// isPath tells whether there is such a path.
func (n *Net) isPath(p path) bool {
	return n.isNode(p.src) && n.isNode(p.dst) && p.src != p.dst
}

// isCut is asked of paths that there are.
func (n *Net) isCut(p path) bool {
	_, cut := n.cut[p]
	return cut
}

// delay is asked of paths that there are.
func (n *Net) delay(p path) int {
	if d, ok := n.delays[p]; ok {
		return d
	}
	return firstDelay
}

// Open tells whether a path is open.
func (n *Net) Open(p, q int) bool {
	way := path{p, q}
	return n.isPath(way) && !n.isCut(way)
}

// Delay is a path's delay in rounds.
func (n *Net) Delay(p, q int) int {
	way := path{p, q}
	if !n.isPath(way) {
		return 0
	}
	return n.delay(way)
}

// setOpen heals a path or cuts it.
func (n *Net) setOpen(p path, open bool) {
	if open {
		delete(n.cut, p)
		return
	}
	n.cut[p] = struct{}{}
}

// setDelay keeps only the delays that differ from the first one.
func (n *Net) setDelay(p path, delay int) api.Errno {
	if delay < 1 || delay > api.MaxDelay {
		return api.ErrArg
	}
	if delay == firstDelay {
		delete(n.delays, p)
		return api.OK
	}
	n.delays[p] = delay
	return api.OK
}

// split leaves open just the paths within a side.
func (n *Net) split(sides []int) api.Errno {
	if len(sides) != len(n.nodes) {
		return api.ErrArg
	}
	for _, side := range sides {
		if side < 0 || side >= api.MaxNodes {
			return api.ErrArg
		}
	}
	for src, from := range sides {
		for dst, to := range sides {
			if src != dst {
				n.setOpen(path{src, dst}, from == to)
			}
		}
	}
	return api.OK
}

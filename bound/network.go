package bound

import "quorate/api"

// How a node stands: a number by node.
const (
	down = iota
	up
	left // it is up, and on its own till it is restarted
)

// firstDelay is what a path has that no event gave another delay.
const firstDelay = 1

// network is what of a network hangs on a script's events alone. A path is a number: its delay, below 0 while the path is cut.
type network struct {
	nodes  int
	stands [api.MaxNodes]int
	paths  [api.MaxNodes][api.MaxNodes]int // from, to
}

// newNetwork is one at a script's beginning: all are up, all is open.
func newNetwork(nodes int) network {
	n := network{nodes: nodes}
	for p := range nodes {
		n.stands[p] = up
		for q := range nodes {
			n.paths[p][q] = firstDelay
		}
	}
	return n
}

func (n *network) isNode(p int) bool { return within(p, 0, n.nodes-1) }

func (n *network) isPath(p, q int) bool { return n.isNode(p) && n.isNode(q) && p != q }

// happen takes in an event; what does nothing in a play does nothing here.
func (n *network) happen(e api.Event) {
	switch e.Kind {
	case api.EvCrash, api.EvRestart, api.EvTear, api.EvLeave:
		if n.isNode(e.A) {
			n.stands[e.A] = standBehind(n.stands[e.A], e)
		}
	case api.EvCut, api.EvHeal, api.EvDelay:
		if n.isPath(e.A, e.B) {
			n.paths[e.A][e.B] = pathBehind(n.paths[e.A][e.B], e)
		}
	case api.EvSplit:
		if n.areSides(e.Sides) {
			n.split(e.Sides)
		}
	}
}

// standBehind is how a node stands behind an event of its own.
func standBehind(stand int, e api.Event) int {
	if stand == down {
		if e.Kind == api.EvRestart {
			return up
		}
		return down
	}
	switch {
	case e.Kind == api.EvCrash, e.Kind == api.EvTear && e.N >= 0:
		return down
	case e.Kind == api.EvLeave:
		return left
	}
	return stand
}

// pathBehind is a path behind an event of its own.
func pathBehind(path int, e api.Event) int {
	switch {
	case e.Kind == api.EvCut:
		return -max(path, -path)
	case e.Kind == api.EvHeal:
		return max(path, -path)
	case !within(e.N, 1, api.MaxDelay):
		return path
	case path < 0:
		return -e.N
	}
	return e.N
}

func (n *network) areSides(sides []int) bool {
	if len(sides) != n.nodes {
		return false
	}
	for p := range n.nodes {
		if !within(sides[p], 0, api.MaxNodes-1) {
			return false
		}
	}
	return true
}

// split leaves open just the paths within a side.
func (n *network) split(sides []int) {
	for p := range n.nodes {
		for q := range n.nodes {
			kind := api.EvCut
			if sides[p] == sides[q] {
				kind = api.EvHeal
			}
			n.paths[p][q] = pathBehind(n.paths[p][q], api.Event{Kind: kind})
		}
	}
}

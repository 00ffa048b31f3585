package detect

import "quorate/api"

// Beat is what the node tells the others now.
func (d *Detector) Beat() api.Beat { return api.Beat{Tick: d.tick, Hears: d.Hears()} }

// Hears lists by node the incarnation that is heard (0: none).
func (d *Detector) Hears() []int {
	own := d.inc
	if d.left {
		own = 0
	}
	return d.incarnations(own, func(o *other) bool { return o.heard })
}

// Estimate lists by node the incarnation with which there is hearing both ways (0: none).
func (d *Detector) Estimate() []int {
	return d.incarnations(d.inc, func(o *other) bool { return o.heard && o.mutual })
}

// incarnations lists by node the known incarnation of each other one that counts, and in the node's own place what is given for it.
func (d *Detector) incarnations(own int, counts func(*other) bool) []int {
	list := make([]int, len(d.others))
	list[d.self] = own
	for q, o := range d.others {
		if o != nil && counts(o) {
			list[q] = o.known
		}
	}
	return list
}

// Suspects lists the nodes that were heard once and are not heard now.
func (d *Detector) Suspects() []int {
	var list []int
	for q, o := range d.others {
		if o != nil && o.suspected() {
			list = append(list, q)
		}
	}
	return list
}

// Known is the greatest incarnation that was heard of a node (0: none).
func (d *Detector) Known(q int) int {
	if q == d.self {
		return d.inc
	}
	o := d.other(q)
	if o == nil {
		return 0
	}
	return o.known
}

// Timeout is the ticks that a node may be silent.
func (d *Detector) Timeout(q int) int {
	o := d.other(q)
	if o == nil {
		return 0
	}
	return o.howLong()
}

// Wrong is how often a node was suspected falsely.
func (d *Detector) Wrong(q int) int {
	o := d.other(q)
	if o == nil {
		return 0
	}
	return o.wrong
}

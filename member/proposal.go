package member

import "quorate/api"

// row has one number for each node, and 0 behind the last, so that == holds all of two sets against each other.
type row [api.MaxNodes]int

// rowOf makes a row of a list; false: the list is not one number from 0 to MaxCount for each node.
func rowOf(l []int, nodes int) (row, bool) {
	var r row
	if len(l) != nodes {
		return r, false
	}
	for q, v := range l {
		if !within(v, 0, api.MaxCount) {
			return r, false
		}
		r[q] = v
	}
	return r, true
}

// list is a row's numbers for so many nodes, in new memory.
func (r row) list(nodes int) []int {
	l := make([]int, nodes)
	copy(l, r[:])
	return l
}

// proposal is what api.Propose is, in a form that can be compared and that shares no memory.
type proposal struct {
	set           row
	cid, rev, top int
	prev          api.ViewID
	vec           row
}

// proposalOf makes a proposal of what an incarnation of node q told; false: it is not valid.
func proposalOf(p api.Propose, q, inc, nodes int) (proposal, bool) {
	set, isSet := rowOf(p.Set, nodes)
	vec, isVec := rowOf(p.Vec, nodes)
	valid := isSet && isVec && set[q] == inc && vec[q] == p.Cid && hearsOnlyOf(vec, set) &&
		within(p.Cid, 1, api.MaxCount) && within(p.Rev, 1, api.MaxCount) &&
		within(p.Top, 0, api.MaxCount-1) && canBePrev(p.Prev, nodes)
	return proposal{set, p.Cid, p.Rev, p.Top, p.Prev, vec}, valid
}

// hearsOnlyOf tells whether a Vec is 0 for each node that is not in a set.
func hearsOnlyOf(vec, set row) bool {
	for q := range vec {
		if set[q] == 0 && vec[q] != 0 {
			return false
		}
	}
	return true
}

// canBePrev tells whether an ID is none, or whole among so many nodes.
func canBePrev(id api.ViewID, nodes int) bool {
	return id == (api.ViewID{}) || within(id.Epoch, 1, api.MaxCount) && within(id.Lead, 0, nodes-1) &&
		within(id.Inc, 1, api.MaxCount) && within(id.Cid, 1, api.MaxCount)
}

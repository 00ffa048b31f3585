package quorum

import "math/bits"

// nodeSet has the bit of each of its nodes, so that counting goes through all sets.
type nodeSet uint

// setOf is the set of a rising list of nodes, if it is one.
func setOf(list []int, nodes int) (nodeSet, bool) {
	var s nodeSet
	for _, p := range list {
		if !within(p, s.end(), nodes-1) {
			return 0, false
		}
		s = s.with(p)
	}
	return s, true
}

func (s nodeSet) has(p int) bool        { return s>>p&1 == 1 }
func (s nodeSet) with(p int) nodeSet    { return s | 1<<p }
func (s nodeSet) without(p int) nodeSet { return s &^ (1 << p) }

// size is how many nodes there are in it.
func (s nodeSet) size() int { return bits.OnesCount(uint(s)) }

// end is the lowest number above all of its nodes.
func (s nodeSet) end() int { return bits.Len(uint(s)) }

// list tells its nodes, rising.
func (s nodeSet) list() []int {
	l := make([]int, 0, s.size())
	for p := range s.end() {
		if s.has(p) {
			l = append(l, p)
		}
	}
	return l
}

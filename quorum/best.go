package quorum

import (
	"cmp"

	"quorate/api"
)

// Best is the place of the standing that goes furthest.
func Best(l []api.Standing) (int, api.Errno) {
	if len(l) == 0 || !areStandings(l) {
		return 0, api.ErrArg
	}
	best := 0
	for i, s := range l {
		if goesFurther(s, l[best]) {
			best = i
		}
	}
	return best, api.OK
}

// areStandings tells whether all entries can be, each of another node: so there are never more than MaxNodes.
func areStandings(l []api.Standing) bool {
	var seen nodeSet
	for _, s := range l {
		fits := within(s.Pid, 0, api.MaxNodes-1) && within(s.Epoch, 0, api.MaxCount) && within(s.Length, 0, api.MaxCount)
		if !fits || seen.has(s.Pid) {
			return false
		}
		seen = seen.with(s.Pid)
	}
	return true
}

// goesFurther tells whether a comes ahead of b, another node's standing.
func goesFurther(a, b api.Standing) bool {
	return cmp.Or(cmp.Compare(a.Epoch, b.Epoch), cmp.Compare(a.Length, b.Length), cmp.Compare(b.Pid, a.Pid)) > 0
}

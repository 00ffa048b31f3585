package audit

import (
	"slices"
	"sort"
)

// reach is up to which index entries were done in views of an epoch.
type reach struct{ epoch, index int }

// reached are those that tell something more than those of lower epochs: so both numbers rise along the list.
type reached []reach

// from is the place of the first one whose epoch is not below this one.
func (l reached) from(epoch int) int {
	return sort.Search(len(l), func(i int) bool { return l[i].epoch >= epoch })
}

// below is up to which index entries were done in views of lower epochs; 0: none were.
func (l reached) below(epoch int) int {
	if at := l.from(epoch); at > 0 {
		return l[at-1].index
	}
	return 0
}

// with is the list with one that may tell something more.
func (l reached) with(r reach) reached {
	at := l.from(r.epoch)
	isTold := at < len(l) && l[at].epoch == r.epoch && l[at].index >= r.index
	if isTold || l.below(r.epoch) >= r.index {
		return l
	}
	end := at
	for end < len(l) && l[end].index <= r.index {
		end++
	}
	return slices.Replace(l, at, end, r)
}

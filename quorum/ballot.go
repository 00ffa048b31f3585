package quorum

import "quorate/api"

// share is how much of all votes a set has.
type share int

const (
	less share = iota // than half
	half
	more
)

// ballot is votes that can be. It is an array, so that what was handed in is never kept.
type ballot struct {
	nodes int
	votes [api.MaxNodes]int
	total int
	first int // the lowest node that votes at all
}

// counted makes a ballot of votes, if they can be.
func counted(votes []int) (ballot, bool) {
	if len(votes) > api.MaxNodes {
		return ballot{}, false
	}
	b := ballot{nodes: len(votes)}
	for p, v := range votes {
		if !within(v, 0, api.MaxVotes) {
			return ballot{}, false
		}
		if b.total == 0 {
			b.first = p // nobody has voted ahead of it
		}
		b.votes[p] = v
		b.total += v
	}
	return b, b.total > 0
}

// sets is how many sets of nodes there are: each number below it is one of them.
func (b *ballot) sets() nodeSet { return 1 << b.nodes }

// weight is the sum of a set's votes.
func (b *ballot) weight(s nodeSet) int {
	sum := 0
	for p := range b.nodes {
		if s.has(p) {
			sum += b.votes[p]
		}
	}
	return sum
}

func (b *ballot) shareOf(s nodeSet) share {
	switch twice := 2 * b.weight(s); {
	case twice > b.total:
		return more
	case twice == b.total:
		return half
	}
	return less
}

// isQuorate tells whether a set may go on: of two halves the one with the first voter.
func (b *ballot) isQuorate(s nodeSet) bool {
	switch b.shareOf(s) {
	case more:
		return true
	case half:
		return s.has(b.first)
	}
	return false
}

// isMinimal tells whether a set is quorate, and no longer so whoever is left out.
func (b *ballot) isMinimal(s nodeSet) bool {
	if !b.isQuorate(s) {
		return false
	}
	for p := range b.nodes {
		if s.has(p) && b.isQuorate(s.without(p)) {
			return false
		}
	}
	return true
}

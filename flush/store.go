package flush

import (
	"bytes"
	"maps"
	"slices"

	"quorate/api"
)

// told is the content that is kept of a node.
type told struct {
	inc     int // 0: none is kept
	content api.Flush
}

// Store keeps the contents and the forwarded messages that came.
type Store struct {
	contents []told                // by node
	begun    api.ViewID            // one that is not whole does for none: no message can be of it
	messages map[api.Slot]api.Data // those that were forwarded
}

// New makes a store for so many nodes.
func New(nodes int) (*Store, api.Errno) {
	if !within(nodes, 1, api.MaxNodes) {
		return nil, api.ErrArg
	}
	return &Store{contents: make([]told, nodes), messages: map[api.Slot]api.Data{}}, api.OK
}

// isNode tells whether a number is a node's.
func (s *Store) isNode(q int) bool { return within(q, 0, len(s.contents)-1) }

// copyOf is a content with lists of its own.
func copyOf(f api.Flush) api.Flush {
	f.Slots, f.Have = copied(f.Slots), copied(f.Have)
	return f
}

// Take keeps a content of a node's incarnation.
func (s *Store) Take(q, inc int, f api.Flush) api.Errno {
	if !s.isNode(q) || !within(inc, 1, api.MaxCount) || !isSound(f) || len(f.Have) != len(s.contents) {
		return api.ErrArg
	}
	kept := &s.contents[q]
	switch {
	case kept.inc > inc:
		return api.ErrOld
	case kept.inc == inc && f.Prev.Epoch < kept.content.Prev.Epoch:
		return api.ErrStale
	case kept.inc == inc && f.Prev.Epoch == kept.content.Prev.Epoch && !isSame(f, kept.content):
		return api.ErrFork
	}
	*kept = told{inc: inc, content: copyOf(f)}
	return api.OK
}

// isSame tells whether two contents are alike in all.
func isSame(a, b api.Flush) bool {
	return a.Prev == b.Prev && a.Base == b.Base && slices.Equal(a.Slots, b.Slots) && slices.Equal(a.Have, b.Have)
}

// isThere tells whether a member's content of that view is kept.
func (s *Store) isThere(prev api.ViewID, m api.Member) bool {
	if !s.isNode(m.Pid) {
		return false
	}
	kept := s.contents[m.Pid]
	// Without the first question nothing would pass for the content of incarnation 0 of no view.
	return kept.inc > 0 && kept.inc == m.Inc && kept.content.Prev == prev
}

// Missing lists those of the members whose content of that view is not here.
func (s *Store) Missing(prev api.ViewID, who []api.Member) []int {
	var list []int
	for _, m := range who {
		if !s.isThere(prev, m) {
			list = append(list, m.Pid)
		}
	}
	return list
}

// Contents lists the members' contents of that view.
func (s *Store) Contents(prev api.ViewID, who []api.Member) ([]api.Flush, api.Errno) {
	var list []api.Flush
	for _, m := range who {
		if !s.isThere(prev, m) {
			return nil, api.ErrMissing
		}
		list = append(list, copyOf(s.contents[m.Pid].content))
	}
	return list, api.OK
}

// Begin says which view has ended: forwarded messages of this view alone are kept from now on, and none yet.
func (s *Store) Begin(prev api.ViewID) {
	s.begun = prev
	clear(s.messages)
}

// Add keeps forwarded messages.
func (s *Store) Add(f api.Forward) api.Errno {
	switch {
	case !isWhole(f.Prev) || !s.areMessages(f.Msgs):
		return api.ErrArg
	case f.Prev != s.begun:
		return api.ErrPrev
	}
	count := len(s.messages)
	for _, d := range f.Msgs {
		kept, there := s.messages[slotOf(d)]
		if there && (kept.Stable != d.Stable || !bytes.Equal(kept.Body, d.Body)) {
			return api.ErrFork
		}
		if !there {
			count++
		}
	}
	if count > api.MaxHeld {
		return api.ErrFull
	}
	for _, d := range f.Msgs {
		d.Body = copied(d.Body)
		s.messages[slotOf(d)] = d
	}
	return api.OK
}

// areMessages tells whether a list can be one of forwarded messages.
func (s *Store) areMessages(l []api.Data) bool {
	if len(l) > api.MaxHeld {
		return false
	}
	for i, d := range l {
		fits := s.isNode(d.Sender) && within(d.Seq, 1, api.MaxCount) && within(d.Stable, 0, api.MaxCount) && len(d.Body) <= api.MaxChunk
		if !fits || i > 0 && compare(slotOf(l[i-1]), slotOf(d)) >= 0 {
			return false
		}
	}
	return true
}

// Messages lists the forwarded messages, by rising sender and number.
func (s *Store) Messages() []api.Data {
	var list []api.Data
	for _, slot := range slices.SortedFunc(maps.Keys(s.messages), compare) {
		d := s.messages[slot]
		d.Body = copied(d.Body)
		list = append(list, d)
	}
	return list
}

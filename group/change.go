package group

import (
	"slices"

	"quorate/api"
	"quorate/flush"
	"quorate/order"
)

// ended is a view as those end it who go on from it together.
type ended struct {
	who      []int       // those, by rising number
	all      []api.Flush // what each of them has of it
	messages []api.Data  // those that this node has kept
}

// beginChange ends the node's part in its view, if that has not been done in an earlier change.
func (s *stack) beginChange() {
	if s.Order == nil || s.Frozen() {
		return
	}
	s.Freeze()
	s.past = ended{}
	s.Store.Take(s.self, s.inc, s.Content(s.nodes)) // of a later view than the last own one: never refused
	s.Begin(s.View().ID)
	s.tell(begun{})
}

// ending is the present view's end for those who go on to w together: false, if what one of them has is not known yet.
func (s *stack) ending(w api.View, trans []int) (ended, bool) {
	if s.Order == nil {
		return ended{}, true
	}
	var who []api.Member
	for _, m := range w.Members {
		if slices.Contains(trans, m.Pid) {
			who = append(who, m)
		}
	}
	all, e := s.Contents(s.View().ID, who)
	if e != api.OK {
		return ended{}, false
	}
	return ended{who: pids(who), all: all, messages: s.Order.Messages()}, true
}

func pids(members []api.Member) []int {
	var list []int
	for _, m := range members {
		list = append(list, m.Pid)
	}
	return list
}

// rest is what is left to be delivered of the present view.
func (s *stack) rest(end ended) ([]api.Msg, api.Errno) {
	if s.Order == nil {
		return nil, api.OK
	}
	return flush.Rest(s.Done(), end.all, slices.Concat(end.messages, s.Store.Messages()))
}

// tryInstall installs the agreed view, if there is one and nothing lacks of the present one's end.
func (s *stack) tryInstall() {
	w, trans, agreed := s.Agreed()
	if !agreed || len(s.happened) >= api.MaxNotes {
		return
	}
	end, known := s.ending(w, trans)
	if !known {
		return
	}
	rest, e := s.rest(end)
	if e != api.OK {
		return
	}
	for _, m := range rest {
		s.deliver(m)
	}
	w, trans, e = s.Install()
	if e != api.OK {
		s.halt()
		return
	}
	s.tell(installed{view: w, trans: trans, lost: max(0, s.accepted-s.whole[s.self])})
	s.past = end
	s.enter(w)
}

// enter begins the stay in a view that the agent has just installed.
func (s *stack) enter(w api.View) {
	s.Order, _ = order.New(w, s.self, s.window) // an agreed view is always one that an Order and a Mux can have
	s.Mux.Reset(w.ID, s.others())
	s.Joiner.Reset()
	s.stay = stay{}
}

// deliver takes a message's chunk in its turn: with the last one its blob is told.
func (s *stack) deliver(m api.Msg) {
	blob, whole, _ := s.Joiner.Take(m.Sender, m.Body)
	if !whole {
		return
	}
	s.whole[m.Sender]++
	s.tell(delivered{sender: m.Sender, seq: s.whole[m.Sender], pos: m.Pos, blob: blob})
}

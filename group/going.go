package group

import (
	"slices"

	"quorate/api"
	"quorate/wire"
)

// goOn does what has become possible.
func (s *stack) goOn() api.Errno {
	if s.Changing() {
		s.tryInstall()
	}
	for !s.blocked() && s.turn() {
	}
	return s.outcome()
}

// turn lets each kind of work in a view have its turn: whether any did something.
func (s *stack) turn() bool {
	did := false
	for _, work := range [...]func() bool{s.sendQueued, s.placeMessages, s.deliverReady, s.tellSafe} {
		did = work() || did
	}
	return did
}

// room is how many items can be pushed to every other member.
func (s *stack) room(others []int) int {
	least := api.MaxCount
	for _, q := range others {
		least = min(least, s.Room(q))
	}
	return least
}

// push gives an item to the streams to all others. There is room: nobody pushes without having asked for it.
func (s *stack) push(others []int, it api.Item) {
	b, _ := wire.EncodeItem(it)
	for _, q := range others {
		s.Push(q, b)
	}
}

func (s *stack) sendQueued() bool {
	others, sent := s.others(), 0
	for ; len(s.queue) > 0 && s.Free() > 0 && s.room(others) > 0; sent++ {
		d, _ := s.Order.Send(s.queue[0]) // a chunk is no longer than a message may be
		s.queue = slices.Delete(s.queue, 0, 1)
		s.push(others, api.Item{Kind: api.ItemData, Data: d})
	}
	return sent > 0
}

func (s *stack) placeMessages() bool {
	others := s.others()
	items := s.Assign(s.room(others))
	for _, it := range items {
		s.push(others, it)
	}
	return len(items) > 0
}

func (s *stack) deliverReady() bool {
	ready := s.Deliver(api.MaxNotes - len(s.happened))
	for _, m := range ready {
		s.deliver(m)
	}
	return len(ready) > 0
}

func (s *stack) tellSafe() bool {
	if s.Prefix() <= s.toldSafe || len(s.happened) >= api.MaxNotes {
		return false
	}
	s.toldSafe = s.Prefix()
	s.tell(safe{pos: s.toldSafe})
	return true
}

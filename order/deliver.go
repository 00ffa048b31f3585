package order

import (
	"iter"
	"slices"

	"quorate/api"
)

// Assign gives positions to messages that have none, if this node is the one who does: at most so many.
func (o *Order) Assign(most int) []api.Item {
	if o.frozen || most <= 0 {
		return nil
	}
	// Nothing waits at another node than the sequencer. And while something waits there is a position left: what stands at the sequencer's positions behind the prefix is held there too, and no more than members times the window are held.
	given := o.waiting[:min(most, len(o.waiting))]
	var items []api.Item
	for _, s := range given {
		o.place(s)
		items = append(items, api.Item{Kind: api.ItemSlot, Pos: o.known(), Stable: o.prefix, Slot: s})
	}
	o.waiting = slices.Delete(o.waiting, 0, len(given))
	return items
}

// ready gives what can be delivered, from the position behind the last delivered one on.
func (o *Order) ready() iter.Seq[api.Msg] {
	return func(yield func(api.Msg) bool) {
		for pos := o.done + 1; pos <= o.known(); pos++ {
			d, held := o.messages[o.slots[pos-o.prefix-1]]
			if !held || !yield(api.Msg{Pos: pos, Sender: d.Sender, Seq: d.Seq, Body: copied(d).Body}) {
				return
			}
		}
	}
}

// Deliver takes out the messages that are next, at most so many.
func (o *Order) Deliver(most int) []api.Msg {
	if o.frozen || most <= 0 {
		return nil
	}
	var list []api.Msg
	for m := range o.ready() {
		o.done = m.Pos
		if m.Sender == o.self {
			o.delivered++
		}
		list = append(list, m)
		if len(list) == most {
			break
		}
	}
	o.raise(o.least())
	return list
}

// least is up to which position all members have delivered, by what they told.
func (o *Order) least() int {
	n := o.done
	for q, p := range o.parts {
		if p.member && q != o.self {
			n = min(n, p.told)
		}
	}
	return n
}

// raise lets the prefix rise to n, which is not above Done: so all that stands up to there is held.
func (o *Order) raise(n int) {
	if n <= o.prefix {
		return
	}
	past := o.slots[:n-o.prefix]
	for _, s := range past {
		delete(o.messages, s)
		o.parts[s.Sender].held--
	}
	o.slots = slices.Delete(o.slots, 0, len(past))
	o.prefix = n
}

// Hear takes what a member tells of how far it is.
func (o *Order) Hear(q int, s api.Stable) api.Errno {
	switch {
	case !o.isOther(q):
		return api.ErrSender
	case !within(s.Done, 0, api.MaxCount) || !within(s.Prefix, 0, s.Done):
		return api.ErrArg
	case s.View != o.id:
		return api.ErrTag
	case o.frozen:
		return api.ErrFrozen
	case s.Prefix > o.done:
		return api.ErrFar
	}
	o.parts[q].seen = true
	o.parts[q].told = max(o.parts[q].told, s.Done)
	o.raise(s.Prefix)
	o.raise(o.least())
	return api.OK
}

package order

import "quorate/api"

// copied is a message with a body of its own.
func copied(d api.Data) api.Data {
	d.Body = append([]byte(nil), d.Body...)
	return d
}

// Send makes the node's next message.
func (o *Order) Send(body []byte) (api.Data, api.Errno) {
	switch {
	case len(body) > api.MaxChunk:
		return api.Data{}, api.ErrArg
	case o.frozen:
		return api.Data{}, api.ErrFrozen
	case o.Free() == 0:
		return api.Data{}, api.ErrWindow
	}
	d := api.Data{Sender: o.self, Seq: o.parts[o.self].taken + 1, Stable: o.prefix, Body: body}
	o.hold(d)
	return copied(d), api.OK
}

// hold keeps a copy of its sender's next message.
func (o *Order) hold(d api.Data) {
	slot := api.Slot{Sender: d.Sender, Seq: d.Seq}
	o.messages[slot] = copied(d)
	o.parts[d.Sender].taken++
	o.parts[d.Sender].held++
	if o.self == o.sequencer {
		o.waiting = append(o.waiting, slot)
	}
}

// Place takes an item that came from a member.
func (o *Order) Place(from int, it api.Item) api.Errno {
	switch {
	case !o.isOther(from):
		return api.ErrSender
	case !isData(it) && !isSlot(it):
		return api.ErrArg
	case o.frozen:
		return api.ErrFrozen
	case it.Kind == api.ItemData:
		return o.takeData(from, it.Data)
	}
	return o.takeSlot(from, it)
}

// isData tells whether an item is a valid one with a message in it.
func isData(it api.Item) bool {
	d := it.Data
	return it.Kind == api.ItemData && it.Pos == 0 && it.Stable == 0 && it.Slot == (api.Slot{}) &&
		within(d.Sender, 0, api.MaxNodes-1) && within(d.Seq, 1, api.MaxCount) &&
		within(d.Stable, 0, api.MaxCount) && len(d.Body) <= api.MaxChunk
}

// isSlot tells whether an item is a valid one with a position in it.
func isSlot(it api.Item) bool {
	d := it.Data
	return it.Kind == api.ItemSlot && within(it.Pos, 1, api.MaxCount) && within(it.Stable, 0, it.Pos-1) &&
		within(it.Slot.Sender, 0, api.MaxNodes-1) && within(it.Slot.Seq, 1, api.MaxCount) &&
		d.Sender == 0 && d.Seq == 0 && d.Stable == 0 && len(d.Body) == 0
}

// takeData takes a message that a member sent.
func (o *Order) takeData(from int, d api.Data) api.Errno {
	sender := &o.parts[from]
	switch {
	case d.Sender != from:
		return api.ErrSender
	case d.Seq != sender.taken+1:
		return api.ErrGap
	case d.Stable > o.done:
		return api.ErrFar
	}
	o.raise(d.Stable)
	if sender.held == o.window {
		return api.ErrWindow
	}
	o.hold(d)
	return api.OK
}

// takeSlot takes a position that the sequencer gave.
func (o *Order) takeSlot(from int, it api.Item) api.Errno {
	switch {
	case from != o.sequencer || !o.isMember(it.Slot.Sender):
		return api.ErrSender
	case it.Pos != o.known()+1 || it.Slot.Seq != o.parts[it.Slot.Sender].placed+1:
		return api.ErrGap
	case it.Stable > o.done:
		return api.ErrFar
	}
	o.raise(it.Stable)
	if len(o.slots) == o.size*o.window {
		return api.ErrWindow
	}
	o.place(it.Slot)
	return api.OK
}

// place lets a message stand at the next position.
func (o *Order) place(s api.Slot) {
	o.slots = append(o.slots, s)
	o.parts[s.Sender].placed++
}

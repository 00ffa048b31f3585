package order

import "quorate/api"

// Told is what this node tells of how far it is.
func (o *Order) Told() api.Stable {
	return api.Stable{View: o.id, Done: o.done, Prefix: o.prefix}
}

// Content is what the node has of the view, for a group of so many nodes.
func (o *Order) Content(nodes int) api.Flush {
	have := make([]int, max(0, min(nodes, api.MaxNodes)))
	for p := range have {
		have[p] = o.parts[p].taken
	}
	return api.Flush{Prev: o.id, Base: o.prefix, Slots: append([]api.Slot(nil), o.slots...), Have: have}
}

// Messages lists the messages that the node keeps, by rising sender and number.
func (o *Order) Messages() []api.Data {
	var list []api.Data
	for sender, p := range o.parts {
		for seq := p.taken - p.held + 1; seq <= p.taken; seq++ {
			list = append(list, copied(o.messages[api.Slot{Sender: sender, Seq: seq}]))
		}
	}
	return list
}

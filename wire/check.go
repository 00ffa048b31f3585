package wire

import "quorate/api"

// Check tells whether a packet's fields fit.
func Check(p api.Packet) api.Errno {
	if !headFits(p) || !partFits(p) || !othersZero(p) {
		return api.ErrPacket
	}
	return api.OK
}

func headFits(p api.Packet) bool {
	return within(p.Kind, api.KindBeat, api.KindForward) &&
		nodeFits(p.Src) && nodeFits(p.Dst) && p.Src != p.Dst &&
		within(p.SrcInc, 1, api.MaxCount) &&
		within(p.DstInc, leastDstInc(p.Kind), api.MaxCount)
}

// partFits looks at the one part that the packet's kind names.
func partFits(p api.Packet) bool {
	switch p.Kind {
	case api.KindBeat:
		return beatFits(p.Beat)
	case api.KindPropose:
		return proposeFits(p.Propose)
	case api.KindFlush:
		return flushFits(p.Flush)
	case api.KindStable:
		return stableFits(p.Stable)
	case api.KindFrame:
		return frameFits(p.Frame)
	case api.KindAck:
		return ackFits(p.Ack)
	case api.KindForward:
		return forwardFits(p.Forward)
	}
	return false
}

// othersZero tells whether every part but the one of the packet's kind is zero. The packet is a copy here, so its own part can be blanked and all of them held against zero.
func othersZero(p api.Packet) bool {
	switch p.Kind {
	case api.KindBeat:
		p.Beat = api.Beat{}
	case api.KindPropose:
		p.Propose = api.Propose{}
	case api.KindFlush:
		p.Flush = api.Flush{}
	case api.KindStable:
		p.Stable = api.Stable{}
	case api.KindFrame:
		p.Frame = api.Frame{}
	case api.KindAck:
		p.Ack = api.Ack{}
	case api.KindForward:
		p.Forward = api.Forward{}
	}
	return beatZero(p.Beat) && proposeZero(p.Propose) && flushZero(p.Flush) &&
		p.Stable == api.Stable{} && frameZero(p.Frame) && p.Ack == api.Ack{} &&
		forwardZero(p.Forward)
}

func beatZero(b api.Beat) bool { return b.Tick == 0 && len(b.Hears) == 0 }

func proposeZero(p api.Propose) bool {
	return len(p.Set) == 0 && p.Cid == 0 && p.Rev == 0 && p.Top == 0 && none(p.Prev) && len(p.Vec) == 0
}

func flushZero(f api.Flush) bool {
	return none(f.Prev) && f.Base == 0 && len(f.Slots) == 0 && len(f.Have) == 0
}

func frameZero(f api.Frame) bool { return none(f.Tag) && f.Seq == 0 && len(f.Body) == 0 }

func forwardZero(f api.Forward) bool { return none(f.Prev) && len(f.Msgs) == 0 }

func beatFits(b api.Beat) bool { return countFits(b.Tick) && nodeListFits(b.Hears) }

func proposeFits(p api.Propose) bool {
	return nodeListFits(p.Set) &&
		within(p.Cid, 1, api.MaxCount) && within(p.Rev, 1, api.MaxCount) && countFits(p.Top) &&
		(none(p.Prev) || whole(p.Prev)) &&
		vecFits(p.Vec, p.Set)
}

// vecFits tells whether vec has a count for each of set, and 0 where set has 0.
func vecFits(vec, set []int) bool {
	if len(vec) != len(set) {
		return false
	}
	for i, v := range vec {
		if !within(v, 0, mostOfVec(set[i])) {
			return false
		}
	}
	return true
}

// mostOfVec is the greatest number that may stand in Vec where Set has this one.
func mostOfVec(ofSet int) int {
	if ofSet == 0 {
		return 0
	}
	return api.MaxCount
}

func flushFits(f api.Flush) bool {
	if !whole(f.Prev) || !countFits(f.Base) || len(f.Slots) > api.MaxHeld {
		return false
	}
	for _, s := range f.Slots {
		if !slotFits(s) {
			return false
		}
	}
	return nodeListFits(f.Have)
}

func stableFits(s api.Stable) bool {
	return whole(s.View) && countFits(s.Done) && within(s.Prefix, 0, s.Done)
}

func frameFits(f api.Frame) bool {
	return whole(f.Tag) && within(f.Seq, 1, api.MaxCount) && within(len(f.Body), 1, api.MaxItem)
}

func ackFits(a api.Ack) bool { return whole(a.Tag) && countFits(a.Upto) }

func forwardFits(f api.Forward) bool {
	if !whole(f.Prev) || !within(len(f.Msgs), 1, api.MaxHeld) {
		return false
	}
	ahead := api.Data{}
	for _, d := range f.Msgs {
		if !dataFits(d) || !rises(ahead, d) {
			return false
		}
		ahead = d
	}
	return true
}

// rises tells whether d may stand behind ahead. The zero data stands ahead of every valid one.
func rises(ahead, d api.Data) bool {
	return d.Sender > ahead.Sender || d.Sender == ahead.Sender && d.Seq > ahead.Seq
}

func dataFits(d api.Data) bool {
	return nodeFits(d.Sender) && within(d.Seq, 1, api.MaxCount) && countFits(d.Stable) && len(d.Body) <= api.MaxChunk
}

func slotFits(s api.Slot) bool { return nodeFits(s.Sender) && within(s.Seq, 1, api.MaxCount) }

func nodeFits(p int) bool { return within(p, 0, api.MaxNodes-1) }

func countFits(v int) bool { return within(v, 0, api.MaxCount) }

// nodeListFits tells whether l can be a list of counts by node.
func nodeListFits(l []int) bool {
	if !within(len(l), 1, api.MaxNodes) {
		return false
	}
	for _, v := range l {
		if !countFits(v) {
			return false
		}
	}
	return true
}

func none(id api.ViewID) bool { return id == api.ViewID{} }

func whole(id api.ViewID) bool {
	return within(id.Epoch, 1, api.MaxCount) && nodeFits(id.Lead) &&
		within(id.Inc, 1, api.MaxCount) && within(id.Cid, 1, api.MaxCount)
}

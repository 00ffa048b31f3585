package wire

import "quorate/api"

// Encode makes a packet's bytes.
func Encode(p api.Packet) ([]byte, api.Errno) {
	if Check(p) != api.OK {
		return nil, api.ErrPacket
	}
	b := append([]byte(mark), byte(p.Kind))
	b = putCounts(b, p.Src, p.SrcInc, p.Dst, p.DstInc)
	b = putPart(b, p)
	return putSum(b), api.OK
}

// The put functions append to a list that is the caller's own, and rely on what Check has looked at.

func putPart(b []byte, p api.Packet) []byte {
	switch p.Kind {
	case api.KindBeat:
		return putList(putCounts(b, p.Beat.Tick), p.Beat.Hears)
	case api.KindPropose:
		return putPropose(b, p.Propose)
	case api.KindFlush:
		return putFlush(b, p.Flush)
	case api.KindStable:
		return putCounts(putID(b, p.Stable.View), p.Stable.Done, p.Stable.Prefix)
	case api.KindFrame:
		return putBytes(putCounts(putID(b, p.Frame.Tag), p.Frame.Seq), p.Frame.Body)
	case api.KindAck:
		return putCounts(putID(b, p.Ack.Tag), p.Ack.Upto)
	case api.KindForward:
		return putForward(b, p.Forward)
	}
	return b
}

func putPropose(b []byte, p api.Propose) []byte {
	b = putList(b, p.Set)
	b = putCounts(b, p.Cid, p.Rev, p.Top)
	b = putID(b, p.Prev)
	return putList(b, p.Vec)
}

func putFlush(b []byte, f api.Flush) []byte {
	b = putID(b, f.Prev)
	b = putCounts(b, f.Base, len(f.Slots))
	for _, s := range f.Slots {
		b = putCounts(b, s.Sender, s.Seq)
	}
	return putList(b, f.Have)
}

func putForward(b []byte, f api.Forward) []byte {
	b = putID(b, f.Prev)
	b = putCounts(b, len(f.Msgs))
	for _, d := range f.Msgs {
		b = putData(b, d)
	}
	return b
}

func putData(b []byte, d api.Data) []byte {
	return putBytes(putCounts(b, d.Sender, d.Seq, d.Stable), d.Body)
}

// putID writes no view as the one count 0, where a whole ID has its Epoch.
func putID(b []byte, id api.ViewID) []byte {
	if none(id) {
		return putCounts(b, 0)
	}
	return putCounts(b, id.Epoch, id.Lead, id.Inc, id.Cid)
}

func putList(b []byte, l []int) []byte { return putCounts(putCounts(b, len(l)), l...) }

func putBytes(b, l []byte) []byte { return append(putCounts(b, len(l)), l...) }

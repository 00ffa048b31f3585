package wire_test

import (
	"encoding/binary"
	"hash/crc32"
	"math"
	"reflect"

	"quorate/api"
)

// count is a count of a sample's text, with the bounds that hold in its place.
type count struct{ v, low, high int }

// sample is a valid packet and what its text is made of, ahead of the sum: counts and bytes (from the place behind the kind on).
type sample struct {
	name   string
	packet api.Packet
	pieces []any
}

func node(v int) count       { return count{v, 0, api.MaxNodes - 1} }
func from0(v int) count      { return count{v, 0, api.MaxCount} }
func from1(v int) count      { return count{v, 1, api.MaxCount} }
func byNode(v int) count     { return count{v, 1, api.MaxNodes} }
func exactly(v int) count    { return count{v, v, v} }
func upTo(v, high int) count { return count{v, 0, high} }

// head is the counts of a head that goes to a certain incarnation.
func head(h api.Head) []any {
	return []any{node(h.Src), from1(h.SrcInc), node(h.Dst), from1(h.DstInc)}
}

func whole(id api.ViewID) []any {
	return []any{from1(id.Epoch), node(id.Lead), from1(id.Inc), from1(id.Cid)}
}

// wholeOrNone is a whole ID where none could stand too.
func wholeOrNone(id api.ViewID) []any {
	return []any{from0(id.Epoch), node(id.Lead), from1(id.Inc), from1(id.Cid)}
}

func join(lists ...[]any) []any {
	var l []any
	for _, m := range lists {
		l = append(l, m...)
	}
	return l
}

// written is the bytes of pieces.
func written(pieces []any) []byte {
	var b []byte
	for _, p := range pieces {
		switch x := p.(type) {
		case count:
			b = binary.AppendUvarint(b, uint64(x.v))
		case int:
			b = binary.AppendUvarint(b, uint64(x))
		case []byte:
			b = append(b, x...)
		case string:
			b = append(b, x...)
		}
	}
	return b
}

// sealed puts the sum behind bytes; it is the library's, so that no fault of the package's own sum is hidden.
func sealed(b []byte) []byte {
	return binary.LittleEndian.AppendUint32(append([]byte{}, b...), crc32.ChecksumIEEE(b))
}

// text is the text of a packet of this kind and these pieces.
func text(kind int, pieces ...any) []byte {
	return sealed(append([]byte{0x51, 0x56, 1, byte(kind)}, written(pieces)...))
}

func (s sample) text() []byte { return text(s.packet.Kind, s.pieces...) }

var (
	id2 = api.ViewID{Epoch: 2, Lead: 3, Inc: 4, Cid: 5}
	idX = api.ViewID{Epoch: api.MaxCount, Lead: api.MaxNodes - 1, Inc: api.MaxCount, Cid: api.MaxCount}
	id1 = api.ViewID{Epoch: 1, Lead: 0, Inc: 1, Cid: 1}
)

func headOf(kind int) api.Head {
	return api.Head{Kind: kind, Src: 2, SrcInc: 6, Dst: 0, DstInc: 300}
}

func greatestHead(kind int) api.Head {
	return api.Head{Kind: kind, Src: api.MaxNodes - 1, SrcInc: api.MaxCount, Dst: api.MaxNodes - 2, DstInc: api.MaxCount}
}

func leastHead(kind int) api.Head {
	return api.Head{Kind: kind, Src: 0, SrcInc: 1, Dst: 1, DstInc: 1}
}

// repeated is a list of n times v.
func repeated[T any](n int, v T) []T {
	l := make([]T, n)
	for i := range l {
		l[i] = v
	}
	return l
}

// samples gives at each call new packets: of each kind the least, an ordinary one and the greatest.
func samples() []sample {
	var l []sample
	l = append(l, beats()...)
	l = append(l, proposes()...)
	l = append(l, flushes()...)
	l = append(l, stables()...)
	l = append(l, frames()...)
	l = append(l, acks()...)
	l = append(l, forwards()...)
	return l
}

func beats() []sample {
	least := leastHead(api.KindBeat)
	least.DstInc = 0
	ordinary, greatest := headOf(api.KindBeat), greatestHead(api.KindBeat)
	beatHead := func(h api.Head) []any {
		return []any{node(h.Src), from1(h.SrcInc), node(h.Dst), from0(h.DstInc)}
	}
	most := join(beatHead(greatest), []any{from0(api.MaxCount), byNode(api.MaxNodes)})
	for range api.MaxNodes {
		most = append(most, from0(api.MaxCount))
	}
	return []sample{
		{"least beat", api.Packet{Head: least, Beat: api.Beat{Hears: []int{0}}},
			join(beatHead(least), []any{from0(0), byNode(1), from0(0)})},
		{"beat", api.Packet{Head: ordinary, Beat: api.Beat{Tick: 130, Hears: []int{1, 0, 7}}},
			join(beatHead(ordinary), []any{from0(130), byNode(3), from0(1), from0(0), from0(7)})},
		{"greatest beat", api.Packet{Head: greatest, Beat: api.Beat{Tick: api.MaxCount, Hears: repeated(api.MaxNodes, api.MaxCount)}}, most},
	}
}

func proposes() []sample {
	least, ordinary, greatest := leastHead(api.KindPropose), headOf(api.KindPropose), greatestHead(api.KindPropose)
	most := append(head(greatest), byNode(api.MaxNodes))
	for range api.MaxNodes {
		most = append(most, from0(api.MaxCount))
	}
	most = append(most, from1(api.MaxCount), from1(api.MaxCount), from0(api.MaxCount))
	most = append(join(most, wholeOrNone(idX)), exactly(api.MaxNodes))
	for range api.MaxNodes {
		most = append(most, from0(api.MaxCount))
	}
	return []sample{
		{"least propose", api.Packet{Head: least, Propose: api.Propose{Set: []int{0}, Cid: 1, Rev: 1, Vec: []int{0}}},
			join(head(least), []any{byNode(1), from0(0), from1(1), from1(1), from0(0), from0(0), exactly(1), upTo(0, 0)})},
		{"propose", api.Packet{Head: ordinary, Propose: api.Propose{Set: []int{1, 0, 300}, Cid: 8, Rev: 9, Top: 10, Prev: id2, Vec: []int{8, 0, 0}}},
			join(head(ordinary), []any{byNode(3), from0(1), from0(0), from0(300), from1(8), from1(9), from0(10)},
				wholeOrNone(id2), []any{exactly(3), from0(8), upTo(0, 0), from0(0)})},
		{"greatest propose", api.Packet{Head: greatest, Propose: api.Propose{
			Set: repeated(api.MaxNodes, api.MaxCount), Cid: api.MaxCount, Rev: api.MaxCount, Top: api.MaxCount, Prev: idX,
			Vec: repeated(api.MaxNodes, api.MaxCount)}}, most},
	}
}

func flushes() []sample {
	least, ordinary, greatest := leastHead(api.KindFlush), headOf(api.KindFlush), greatestHead(api.KindFlush)
	most := append(join(head(greatest), whole(idX)), from0(api.MaxCount), upTo(api.MaxHeld, api.MaxHeld))
	for range api.MaxHeld {
		most = append(most, node(api.MaxNodes-1), from1(api.MaxCount))
	}
	most = append(most, byNode(api.MaxNodes))
	for range api.MaxNodes {
		most = append(most, from0(api.MaxCount))
	}
	return []sample{
		{"least flush", api.Packet{Head: least, Flush: api.Flush{Prev: id1, Have: []int{0}}},
			join(head(least), whole(id1), []any{from0(0), upTo(0, api.MaxHeld), byNode(1), from0(0)})},
		{"flush", api.Packet{Head: ordinary, Flush: api.Flush{Prev: id2, Base: 200, Slots: []api.Slot{{Sender: 3, Seq: 1}, {Sender: 0, Seq: 128}}, Have: []int{5, 0, 1}}},
			join(head(ordinary), whole(id2), []any{from0(200), upTo(2, api.MaxHeld), node(3), from1(1), node(0), from1(128),
				byNode(3), from0(5), from0(0), from0(1)})},
		{"greatest flush", api.Packet{Head: greatest, Flush: api.Flush{Prev: idX, Base: api.MaxCount,
			Slots: repeated(api.MaxHeld, api.Slot{Sender: api.MaxNodes - 1, Seq: api.MaxCount}), Have: repeated(api.MaxNodes, api.MaxCount)}}, most},
	}
}

func stables() []sample {
	least, ordinary, greatest := leastHead(api.KindStable), headOf(api.KindStable), greatestHead(api.KindStable)
	return []sample{
		{"least stable", api.Packet{Head: least, Stable: api.Stable{View: id1}},
			join(head(least), whole(id1), []any{from0(0), upTo(0, 0)})},
		{"stable", api.Packet{Head: ordinary, Stable: api.Stable{View: id2, Done: 129, Prefix: 128}},
			join(head(ordinary), whole(id2), []any{from0(129), upTo(128, 129)})},
		{"greatest stable", api.Packet{Head: greatest, Stable: api.Stable{View: idX, Done: api.MaxCount, Prefix: api.MaxCount}},
			join(head(greatest), whole(idX), []any{from0(api.MaxCount), from0(api.MaxCount)})},
	}
}

func frames() []sample {
	least, ordinary, greatest := leastHead(api.KindFrame), headOf(api.KindFrame), greatestHead(api.KindFrame)
	body := repeated(api.MaxItem, byte(0xff))
	return []sample{
		{"least frame", api.Packet{Head: least, Frame: api.Frame{Tag: id1, Seq: 1, Body: []byte{0}}},
			join(head(least), whole(id1), []any{from1(1), count{1, 1, api.MaxItem}, []byte{0}})},
		{"frame", api.Packet{Head: ordinary, Frame: api.Frame{Tag: id2, Seq: 77, Body: []byte("piece")}},
			join(head(ordinary), whole(id2), []any{from1(77), count{5, 1, api.MaxItem}, "piece"})},
		{"greatest frame", api.Packet{Head: greatest, Frame: api.Frame{Tag: idX, Seq: api.MaxCount, Body: body}},
			join(head(greatest), whole(idX), []any{from1(api.MaxCount), count{api.MaxItem, 1, api.MaxItem}, body})},
	}
}

func acks() []sample {
	least, ordinary, greatest := leastHead(api.KindAck), headOf(api.KindAck), greatestHead(api.KindAck)
	return []sample{
		{"least ack", api.Packet{Head: least, Ack: api.Ack{Tag: id1}}, join(head(least), whole(id1), []any{from0(0)})},
		{"ack", api.Packet{Head: ordinary, Ack: api.Ack{Tag: id2, Upto: 128}}, join(head(ordinary), whole(id2), []any{from0(128)})},
		{"greatest ack", api.Packet{Head: greatest, Ack: api.Ack{Tag: idX, Upto: api.MaxCount}}, join(head(greatest), whole(idX), []any{from0(api.MaxCount)})},
	}
}

func forwards() []sample {
	least, ordinary, greatest := leastHead(api.KindForward), headOf(api.KindForward), greatestHead(api.KindForward)
	chunk := func(n int) count { return upTo(n, api.MaxChunk) }
	sender := func(v, low int) count { return count{v, low, api.MaxNodes - 1} }
	seq := func(v, low int) count { return count{v, low, api.MaxCount} }
	body := repeated(api.MaxChunk, byte(0xa5))
	const first = api.MaxCount - api.MaxHeld + 1
	var msgs []api.Data
	most := append(join(head(greatest), whole(idX)), count{api.MaxHeld, 1, api.MaxHeld})
	for i := range api.MaxHeld {
		msgs = append(msgs, api.Data{Sender: api.MaxNodes - 1, Seq: first + i, Stable: api.MaxCount, Body: append([]byte{}, body...)})
		low, lowSeq := api.MaxNodes-1, first+i
		if i == 0 {
			low, lowSeq = 0, 1
		}
		most = append(most, sender(api.MaxNodes-1, low), seq(first+i, lowSeq), from0(api.MaxCount), chunk(api.MaxChunk), body)
	}
	return []sample{
		{"least forward", api.Packet{Head: least, Forward: api.Forward{Prev: id1, Msgs: []api.Data{{Sender: 0, Seq: 1}}}},
			join(head(least), whole(id1), []any{count{1, 1, api.MaxHeld}, node(0), from1(1), from0(0), chunk(0)})},
		{"forward", api.Packet{Head: ordinary, Forward: api.Forward{Prev: id2, Msgs: []api.Data{
			{Sender: 1, Seq: 5, Stable: 200}, {Sender: 1, Seq: 7, Body: []byte("a")}, {Sender: 4, Seq: 1, Stable: 1, Body: []byte("bc")}, {Sender: 4, Seq: 2}}}},
			join(head(ordinary), whole(id2), []any{count{4, 1, api.MaxHeld},
				sender(1, 0), seq(5, 1), from0(200), chunk(0),
				sender(1, 1), seq(7, 6), from0(0), chunk(1), "a",
				sender(4, 1), seq(1, 1), from0(1), chunk(2), "bc",
				sender(4, 4), seq(2, 2), from0(0), chunk(0)})},
		{"greatest forward", api.Packet{Head: greatest, Forward: api.Forward{Prev: idX, Msgs: msgs}}, most},
	}
}

// plain is the packet with nil in the place of every list of length 0, all its lists new.
func plain(p api.Packet) api.Packet {
	p.Beat.Hears = copied(p.Beat.Hears)
	p.Propose.Set = copied(p.Propose.Set)
	p.Propose.Vec = copied(p.Propose.Vec)
	p.Flush.Slots = copied(p.Flush.Slots)
	p.Flush.Have = copied(p.Flush.Have)
	p.Frame.Body = copied(p.Frame.Body)
	p.Forward.Msgs = copied(p.Forward.Msgs)
	for i := range p.Forward.Msgs {
		p.Forward.Msgs[i].Body = copied(p.Forward.Msgs[i].Body)
	}
	return p
}

func plainItem(it api.Item) api.Item {
	it.Data.Body = copied(it.Data.Body)
	return it
}

func copied[T any](l []T) []T { return append([]T(nil), l...) }

func same(p, q api.Packet) bool { return reflect.DeepEqual(plain(p), plain(q)) }

func sameItem(a, b api.Item) bool { return reflect.DeepEqual(plainItem(a), plainItem(b)) }

// zero tells whether nothing at all is in an answer that comes with an error.
func zero(v any) bool { return reflect.ValueOf(v).IsZero() }

// wild is numbers that no count may be, or just so.
var wild = []int{math.MinInt, -api.MaxCount, -1, 0, 1, 2, 15, 16, 17, 127, 128, 129, 255, 256, 257, 300, 301, api.MaxCount - 1, api.MaxCount, api.MaxCount + 1, math.MaxInt}

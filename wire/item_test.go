package wire_test

import (
	"bytes"
	"math"
	"math/rand"
	"testing"

	"quorate/api"
	"quorate/wire"
)

// itemSample is a valid item and what its text is made of, behind the kind.
type itemSample struct {
	name   string
	item   api.Item
	pieces []any
}

func (s itemSample) text() []byte { return itemText(s.item.Kind, s.pieces...) }

func itemText(kind int, pieces ...any) []byte { return append([]byte{byte(kind)}, written(pieces)...) }

func data(sender, seq, stable int, body []byte) api.Item {
	return api.Item{Kind: api.ItemData, Data: api.Data{Sender: sender, Seq: seq, Stable: stable, Body: body}}
}

func slot(pos, stable, sender, seq int) api.Item {
	return api.Item{Kind: api.ItemSlot, Pos: pos, Stable: stable, Slot: api.Slot{Sender: sender, Seq: seq}}
}

func itemSamples() []itemSample {
	long := repeated(api.MaxChunk, byte(0xc3))
	chunk := func(n int) count { return upTo(n, api.MaxChunk) }
	return []itemSample{
		{"least data", data(0, 1, 0, nil), []any{node(0), from1(1), from0(0), chunk(0)}},
		{"data", data(3, 300, 17, []byte("body")), []any{node(3), from1(300), from0(17), chunk(4), "body"}},
		{"greatest data", data(15, api.MaxCount, api.MaxCount, long), []any{node(15), from1(api.MaxCount), from0(api.MaxCount), chunk(256), long}},
		{"least slot", slot(1, 0, 0, 1), []any{from1(1), upTo(0, 0), node(0), from1(1)}},
		{"slot", slot(130, 129, 4, 200), []any{from1(130), upTo(129, 129), node(4), from1(200)}},
		{"greatest slot", slot(api.MaxCount, api.MaxCount-1, 15, api.MaxCount), []any{from1(api.MaxCount), upTo(api.MaxCount-1, api.MaxCount-1), node(15), from1(api.MaxCount)}},
	}
}

func TestItemsAndTheirTexts(t *testing.T) {
	for _, s := range itemSamples() {
		kept := plainItem(s.item)
		b, e := wire.EncodeItem(s.item)
		if e != api.OK || !bytes.Equal(b, s.text()) {
			t.Errorf("W9: %s: EncodeItem = % x, %d, want % x", s.name, b, e, s.text())
		}
		if len(b) < 5 || len(b) > api.MaxItem {
			t.Errorf("W9: %s: the text has %d bytes", s.name, len(b))
		}
		it, e := wire.DecodeItem(s.text())
		if e != api.OK || !sameItem(it, kept) || !sameItem(s.item, kept) {
			t.Errorf("W9: %s: DecodeItem = %+v, %d", s.name, it, e)
		}
	}
	if b, e := wire.EncodeItem(data(0, 1, 0, []byte{})); e != api.OK || !bytes.Equal(b, []byte{1, 0, 1, 0, 0}) {
		t.Errorf("W9: EncodeItem of an empty Body = % x, %d", b, e)
	}
	empty := slot(1, 0, 0, 1)
	empty.Data.Body = []byte{}
	if b, e := wire.EncodeItem(empty); e != api.OK || !bytes.Equal(b, []byte{2, 1, 0, 0, 1}) {
		t.Errorf("W9: EncodeItem of a slot with an empty Body = % x, %d", b, e)
	}
}

func TestItemExamples(t *testing.T) {
	for _, c := range []struct {
		b    []byte
		item api.Item
		e    api.Errno
	}{
		{[]byte{2, 1, 0, 0, 1}, slot(1, 0, 0, 1), api.OK},
		{[]byte{2, 0, 0, 0, 1}, api.Item{}, api.ErrPacket},
		{[]byte{2, 1, 1, 0, 1}, api.Item{}, api.ErrPacket},
		{[]byte{1, 0, 1, 0, 0}, data(0, 1, 0, nil), api.OK},
		{[]byte{1, 0, 1, 0, 2, 0x61}, api.Item{}, api.ErrShort},
		{[]byte{1, 0, 1, 0, 0, 0x61}, api.Item{}, api.ErrTail},
		{[]byte{1, 0, 1, 0, 0xad, 2}, api.Item{}, api.ErrPacket},
	} {
		if it, e := wire.DecodeItem(c.b); e != c.e || !sameItem(it, c.item) {
			t.Errorf("example 4: DecodeItem(% x) = %+v, %d, want %+v, %d", c.b, it, e, c.item, c.e)
		}
	}
}

func TestEncodeItemRefuses(t *testing.T) {
	both := data(0, 1, 0, nil)
	both.Slot = api.Slot{Sender: 0, Seq: 1}
	withSender := data(0, 1, 0, nil)
	withSender.Slot.Sender = 1
	withPos := data(0, 1, 0, nil)
	withPos.Pos = 1
	withStable := data(0, 1, 0, nil)
	withStable.Stable = 1
	bad := []api.Item{
		{}, both, withSender, withPos, withStable, {Kind: 1}, {Kind: 2},
		{Kind: 1, Pos: 1, Slot: api.Slot{Seq: 1}}, {Kind: 2, Data: api.Data{Seq: 1}},
		data(0, 1, 0, make([]byte, api.MaxChunk+1)), data(0, 1, 0, make([]byte, 70000)),
	}
	for _, kind := range []int{math.MinInt, -1, 0, 3, 257, 258, math.MaxInt} {
		d, s := data(0, 1, 0, nil), slot(1, 0, 0, 1)
		d.Kind, s.Kind = kind, kind
		bad = append(bad, d, s)
	}
	for _, v := range []int{math.MinInt, -1, api.MaxCount + 1, math.MaxInt} {
		bad = append(bad, data(v, 1, 0, nil), data(0, v, 0, nil), data(0, 1, v, nil), slot(v, 0, 0, 1), slot(3, v, 0, 1), slot(1, 0, v, 1), slot(1, 0, 0, v))
	}
	bad = append(bad, data(16, 1, 0, nil), data(0, 0, 0, nil), slot(0, 0, 0, 1), slot(0, -1, 0, 1), slot(1, 1, 0, 1), slot(5, 5, 0, 1), slot(5, 6, 0, 1), slot(1, 0, 16, 1), slot(1, 0, 0, 0))
	for _, d := range []api.Data{{Sender: 1}, {Seq: 1}, {Stable: 1}, {Body: []byte{0}}, {Seq: -1}} {
		s := slot(1, 0, 0, 1)
		s.Data = d
		bad = append(bad, s)
	}
	for _, it := range bad {
		if b, e := wire.EncodeItem(it); b != nil || e != api.ErrPacket {
			t.Errorf("W9: EncodeItem(%+v) = % x, %d", it, b, e)
		}
	}
}

func refuseItem(t *testing.T, what string, b []byte, want api.Errno) {
	t.Helper()
	kept := append([]byte{}, b...)
	if it, e := wire.DecodeItem(b); e != want || !zero(it) {
		t.Errorf("W9: %s: DecodeItem(% x) = %+v, %d, want error %d", what, b[:min(len(b), 60)], it, e, want)
	}
	if !bytes.Equal(b, kept) {
		t.Errorf("P2: %s: DecodeItem changes what it is given", what)
	}
}

func TestDecodeItemRefusesInOrder(t *testing.T) {
	tooLong := append([]byte{1, 0, 1, 0}, make([]byte, api.MaxItem)...)
	refuseItem(t, "301 bytes", tooLong[:api.MaxItem+1], api.ErrLong)
	refuseItem(t, "301 bytes of no kind", make([]byte, api.MaxItem+1), api.ErrLong)
	refuseItem(t, "300 bytes", tooLong[:api.MaxItem], api.ErrTail)
	refuseItem(t, "300 bytes of no kind", make([]byte, api.MaxItem), api.ErrKind)
	refuseItem(t, "nothing", nil, api.ErrShort)
	refuseItem(t, "nothing", []byte{}, api.ErrShort)
	for _, kind := range []byte{0, 3, 4, 128, 129, 130, 255} {
		refuseItem(t, "no kind", []byte{kind}, api.ErrKind)
		refuseItem(t, "no kind", []byte{kind, 1, 0, 0, 1}, api.ErrKind)
	}
	refuseItem(t, "a kind alone", []byte{1}, api.ErrShort)
	refuseItem(t, "a kind alone", []byte{2}, api.ErrShort)
	refuseItem(t, "Sender ahead of Seq", itemText(1, 16, high(9)), api.ErrPacket)
	refuseItem(t, "Seq 0 ahead of Stable", itemText(1, 0, 0, high(9)), api.ErrPacket)
	refuseItem(t, "Pos 0 ahead of Stable", itemText(2, 0, high(9)), api.ErrPacket)
	refuseItem(t, "Stable at Pos", itemText(2, 7, 7, high(9)), api.ErrPacket)
	refuseItem(t, "a chunk of 256 with 255", itemText(1, 0, 1, 0, 256, make([]byte, 255)), api.ErrShort)
	refuseItem(t, "a chunk of 257", itemText(1, 0, 1, 0, 257, make([]byte, 257)), api.ErrPacket)
}

func TestDecodeItemOfEachCount(t *testing.T) {
	for _, s := range itemSamples() {
		b := s.text()
		for n := 1; n < len(b); n++ {
			refuseItem(t, s.name+" cut off", b[:n], api.ErrShort)
		}
		for _, more := range [][]byte{{0}, {1}, {0x80}, high(9)} {
			refuseItem(t, s.name+" with more", append(append([]byte{}, b...), more...), api.ErrTail)
		}
		for at, p := range s.pieces {
			c, ok := p.(count)
			if !ok {
				continue
			}
			put := func(piece any, behind ...any) []byte {
				l := append(append([]any{}, s.pieces[:at]...), piece)
				return itemText(s.item.Kind, append(l, behind...)...)
			}
			rest := written(s.pieces[at+1:])
			if c.low > 0 {
				refuseItem(t, s.name+", too low", put(c.low-1, rest), api.ErrPacket)
			}
			if c.high < api.MaxCount {
				refuseItem(t, s.name+", too high", put(c.high+1, rest), api.ErrPacket)
				refuseItem(t, s.name+", too high, then no form", put(c.high+1, high(9)), api.ErrPacket)
			}
			refuseItem(t, s.name+", no form", put([]byte{0x80, 0}, rest), api.ErrForm)
			refuseItem(t, s.name+", nine high bytes", put(high(9)), api.ErrForm)
			refuseItem(t, s.name+", above MaxCount", put(append(high(8), 0x41), rest), api.ErrForm)
			refuseItem(t, s.name+", eight high bytes and the end", put(high(8)), api.ErrShort)
		}
	}
}

func TestItemsShareNothing(t *testing.T) {
	for _, s := range itemSamples() {
		kept := plainItem(s.item)
		first, _ := wire.EncodeItem(s.item)
		second, _ := wire.EncodeItem(s.item)
		scribble(first)
		if !bytes.Equal(second, s.text()) || !sameItem(s.item, kept) {
			t.Errorf("P2: %s: what EncodeItem answers shares memory", s.name)
		}
		b := s.text()
		one, _ := wire.DecodeItem(b)
		other, _ := wire.DecodeItem(b)
		scribble(one.Data.Body)
		if !bytes.Equal(b, s.text()) || !sameItem(other, s.item) {
			t.Errorf("P2: %s: what DecodeItem answers shares memory", s.name)
		}
		scribble(b)
		if !sameItem(other, s.item) {
			t.Errorf("P2: %s: what DecodeItem answers hangs on the bytes that were handed in", s.name)
		}
	}
}

// TestWildItems: whatever is handed in, the calls end; what the one takes the other gives back.
func TestWildItems(t *testing.T) {
	source := rand.New(rand.NewSource(5))
	number := func() int { return wild[source.Intn(len(wild))] }
	for range 50000 {
		it := api.Item{Kind: 1 + source.Intn(2)}
		switch source.Intn(3) {
		case 0:
			it = data(number(), number(), number(), make([]byte, source.Intn(300)))
		case 1:
			it = slot(number(), number(), number(), number())
		default:
			it.Pos, it.Stable, it.Data.Seq, it.Slot.Seq = number(), number(), number(), number()
		}
		b, e := wire.EncodeItem(it)
		if e != api.OK {
			continue
		}
		if back, e := wire.DecodeItem(b); e != api.OK || !sameItem(back, it) {
			t.Fatalf("W9: %+v comes back as %+v, %d", it, back, e)
		}
	}
	for range 200000 {
		b := make([]byte, source.Intn(12))
		for i := range b {
			b[i] = byte(source.Intn(256) >> source.Intn(9))
		}
		it, e := wire.DecodeItem(b)
		if e != api.OK {
			continue
		}
		if back, e := wire.EncodeItem(it); e != api.OK || !bytes.Equal(back, b) {
			t.Fatalf("W9: DecodeItem(% x) is encoded % x, %d", b, back, e)
		}
	}
}

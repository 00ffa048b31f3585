package wire_test

import (
	"bytes"
	"math/rand"
	"testing"

	"quorate/api"
	"quorate/wire"
)

// TestTextsByHand: one text of each kind, written out byte by byte.
func TestTextsByHand(t *testing.T) {
	view := api.ViewID{Epoch: 2, Lead: 0, Inc: 300, Cid: 7}
	for _, c := range []struct {
		name   string
		packet api.Packet
		text   []byte
	}{
		{"example 1", api.Packet{Head: api.Head{Kind: api.KindBeat, SrcInc: 1, Dst: 1}, Beat: api.Beat{Tick: 3, Hears: []int{1, 0}}},
			[]byte{0x51, 0x56, 1, 1, 0, 1, 1, 0, 3, 2, 1, 0, 0xc6, 0x2a, 0xb8, 0xd1}},
		{"example 2", api.Packet{Head: api.Head{Kind: api.KindAck, Src: 2, SrcInc: 1, DstInc: 300}, Ack: api.Ack{Tag: view, Upto: 128}},
			[]byte{0x51, 0x56, 1, 6, 2, 1, 0, 0xac, 2, 2, 0, 0xac, 2, 7, 0x80, 1, 0x7c, 0x3e, 0x89, 0xb7}},
		{"propose", api.Packet{Head: api.Head{Kind: api.KindPropose, Src: 2, SrcInc: 1, DstInc: 5}, Propose: api.Propose{Set: []int{1, 0, 3}, Cid: 4, Rev: 5, Top: 6, Prev: api.ViewID{Epoch: 7, Lead: 1, Inc: 8, Cid: 9}, Vec: []int{10, 0, 0}}},
			sealed([]byte{0x51, 0x56, 1, 2, 2, 1, 0, 5, 3, 1, 0, 3, 4, 5, 6, 7, 1, 8, 9, 3, 10, 0, 0})},
		{"propose from no view", api.Packet{Head: api.Head{Kind: api.KindPropose, Src: 2, SrcInc: 1, DstInc: 5}, Propose: api.Propose{Set: []int{1}, Cid: 4, Rev: 5, Vec: []int{10}}},
			sealed([]byte{0x51, 0x56, 1, 2, 2, 1, 0, 5, 1, 1, 4, 5, 0, 0, 1, 10})},
		{"flush", api.Packet{Head: api.Head{Kind: api.KindFlush, Src: 2, SrcInc: 1, DstInc: 5}, Flush: api.Flush{Prev: view, Base: 200, Slots: []api.Slot{{Sender: 3, Seq: 1}, {Sender: 0, Seq: 300}}, Have: []int{5, 0, 1}}},
			sealed([]byte{0x51, 0x56, 1, 3, 2, 1, 0, 5, 2, 0, 0xac, 2, 7, 0xc8, 1, 2, 3, 1, 0, 0xac, 2, 3, 5, 0, 1})},
		{"stable", api.Packet{Head: api.Head{Kind: api.KindStable, Src: 2, SrcInc: 1, DstInc: 5}, Stable: api.Stable{View: view, Done: 4, Prefix: 3}},
			sealed([]byte{0x51, 0x56, 1, 4, 2, 1, 0, 5, 2, 0, 0xac, 2, 7, 4, 3})},
		{"frame", api.Packet{Head: api.Head{Kind: api.KindFrame, Src: 2, SrcInc: 1, DstInc: 5}, Frame: api.Frame{Tag: view, Seq: 9, Body: []byte("ab")}},
			sealed([]byte{0x51, 0x56, 1, 5, 2, 1, 0, 5, 2, 0, 0xac, 2, 7, 9, 2, 'a', 'b'})},
		{"forward", api.Packet{Head: api.Head{Kind: api.KindForward, Src: 2, SrcInc: 1, DstInc: 5}, Forward: api.Forward{Prev: view, Msgs: []api.Data{{Sender: 1, Seq: 5, Stable: 6}, {Sender: 3, Seq: 1, Body: []byte("bc")}}}},
			sealed([]byte{0x51, 0x56, 1, 7, 2, 1, 0, 5, 2, 0, 0xac, 2, 7, 2, 1, 5, 6, 0, 3, 1, 0, 2, 'b', 'c'})},
	} {
		if b, e := wire.Encode(c.packet); e != api.OK || !bytes.Equal(b, c.text) {
			t.Errorf("W5: %s: Encode = % x, %d, want % x", c.name, b, e, c.text)
		}
		if p, e := wire.Decode(c.text); e != api.OK || !same(p, c.packet) {
			t.Errorf("W6: %s: Decode = %+v, %d", c.name, p, e)
		}
	}
}

func TestEncodeAndDecodeAreEachOthersWayBack(t *testing.T) {
	for _, s := range samples() {
		kept := plain(s.packet)
		b, e := wire.Encode(s.packet)
		if e != api.OK || !bytes.Equal(b, s.text()) {
			t.Errorf("W5: %s: Encode = % x, %d, want % x", s.name, b, e, s.text())
		}
		if len(b) > api.MaxPacket {
			t.Errorf("W5: %s: the text has %d bytes", s.name, len(b))
		}
		if !same(s.packet, kept) {
			t.Errorf("P2: %s: Encode changes the packet", s.name)
		}
		p, e := wire.Decode(s.text())
		if e != api.OK || !same(p, kept) {
			t.Errorf("W6, W7: %s: Decode = %+v, %d", s.name, p, e)
		}
		if wire.Check(p) != api.OK {
			t.Errorf("W7: %s: what Decode answers is not valid", s.name)
		}
	}
}

func TestEncodeSharesNothing(t *testing.T) {
	for _, s := range samples() {
		kept := plain(s.packet)
		first, _ := wire.Encode(s.packet)
		second, _ := wire.Encode(s.packet)
		scribble(first)
		if !bytes.Equal(second, s.text()) || !same(s.packet, kept) {
			t.Errorf("P2: %s: what Encode answers shares memory", s.name)
		}
	}
}

// scribblers gives for each list of a packet what writes over it and its spare room.
func scribblers(p *api.Packet) []func() {
	var l []func()
	for _, ints := range [][]int{p.Beat.Hears, p.Propose.Set, p.Propose.Vec, p.Flush.Have} {
		l = append(l, func() { fill(ints, -7) })
	}
	l = append(l, func() { fill(p.Flush.Slots, api.Slot{Sender: -7, Seq: -7}) })
	l = append(l, func() { scribble(p.Frame.Body) })
	for i := range p.Forward.Msgs {
		body := p.Forward.Msgs[i].Body
		l = append(l, func() { scribble(body) })
	}
	return l
}

func fill[T any](l []T, v T) {
	l = l[:cap(l)]
	for i := range l {
		l[i] = v
	}
}

// bare is a packet without the list that one scribbler writes over, so that the rest can be held against what it was.
func bare(p api.Packet, k int) api.Packet {
	p = plain(p)
	switch k {
	case 0:
		p.Beat.Hears = nil
	case 1:
		p.Propose.Set = nil
	case 2:
		p.Propose.Vec = nil
	case 3:
		p.Flush.Have = nil
	case 4:
		p.Flush.Slots = nil
	case 5:
		p.Frame.Body = nil
	default:
		p.Forward.Msgs[k-6].Body = nil
	}
	return p
}

func TestDecodeSharesNothing(t *testing.T) {
	for _, s := range samples() {
		b := s.text()
		p, _ := wire.Decode(b)
		for k := range scribblers(&p) {
			first, _ := wire.Decode(b)
			second, _ := wire.Decode(b)
			scribblers(&first)[k]()
			if !bytes.Equal(b, s.text()) || !same(second, s.packet) {
				t.Errorf("P2: %s: list %d that Decode answers shares memory", s.name, k)
			}
			if !same(bare(first, k), bare(s.packet, k)) {
				t.Errorf("P2: %s: list %d that Decode answers shares memory with another of the answer", s.name, k)
			}
		}
		scribble(b)
		if !same(p, s.packet) {
			t.Errorf("P2: %s: what Decode answers hangs on the bytes that were handed in", s.name)
		}
	}
}

// refuse holds Decode of b against the error that is wanted.
func refuse(t *testing.T, what string, b []byte, want api.Errno) {
	t.Helper()
	kept := append([]byte{}, b...)
	if p, e := wire.Decode(b); e != want || !zero(p) {
		t.Errorf("W6: %s: Decode(% x) = %+v, %d, want error %d", what, b[:min(len(b), 60)], p, e, want)
	}
	if !bytes.Equal(b, kept) {
		t.Errorf("P2: %s: Decode changes what it is given", what)
	}
}

func TestDecodeOfWhatEncloses(t *testing.T) {
	beat := []byte{0x51, 0x56, 1, 1, 0, 1, 1, 0, 3, 2, 1, 0, 0xc6, 0x2a, 0xb8, 0xd1}
	alter := func(at int, v byte) []byte {
		b := append([]byte{}, beat...)
		b[at] ^= v
		return b
	}
	padded := func(n int, kind byte) []byte {
		b := make([]byte, n-4)
		copy(b, beat[:12])
		b[3] = kind
		return sealed(b)
	}
	refuse(t, "one byte too many, else a text", padded(api.MaxPacket+1, 1), api.ErrLong)
	refuse(t, "too many zeros", make([]byte, api.MaxPacket+1), api.ErrLong)
	refuse(t, "far too many", make([]byte, 3*api.MaxPacket), api.ErrLong)
	refuse(t, "just not too many", padded(api.MaxPacket, 1), api.ErrTail)
	refuse(t, "zeros", make([]byte, api.MaxPacket), api.ErrMagic)
	for n := range 12 {
		refuse(t, "too few", beat[:n], api.ErrShort)
		refuse(t, "too few zeros", make([]byte, n), api.ErrShort)
	}
	refuse(t, "eleven with their sum", sealed([]byte{0x51, 0x56, 1, 8, 0, 0, 0}), api.ErrShort)
	refuse(t, "twelve zeros", make([]byte, 12), api.ErrMagic)
	refuse(t, "twelve", beat[:12], api.ErrSum)
	refuse(t, "twelve with their sum", sealed(beat[:8]), api.ErrShort)
	for at := range 3 {
		b := alter(at, 1)
		refuse(t, "another mark", b, api.ErrMagic)
		refuse(t, "another mark with its sum", sealed(b[:12]), api.ErrMagic)
		b[3] = 8
		refuse(t, "another mark and no kind", sealed(b[:12]), api.ErrMagic)
	}
	for at := 3; at < 16; at++ {
		refuse(t, "another byte", alter(at, 1), api.ErrSum)
		refuse(t, "another byte", alter(at, 0x80), api.ErrSum)
	}
	for _, kind := range []byte{0, 8, 9, 127, 128, 129, 255} {
		b := append([]byte{}, beat...)
		b[3] = kind
		refuse(t, "no kind and a wrong sum", b, api.ErrSum)
		refuse(t, "no kind", sealed(b[:12]), api.ErrKind)
		refuse(t, "no kind and no counts", sealed([]byte{0x51, 0x56, 1, kind, 16, 0x80, 0, 0x80}), api.ErrKind)
	}
	refuse(t, "the sum's highest byte first", append(append([]byte{}, beat[:12]...), 0xd1, 0xb8, 0x2a, 0xc6), api.ErrSum)
}

func TestDecodeOfWhatEndsTooEarlyOrTooLate(t *testing.T) {
	for _, s := range samples() {
		b := s.text()
		counts := b[4 : len(b)-4]
		step := 1 + len(counts)/2000
		for n := 4; n < len(counts); n += step {
			refuse(t, s.name+" cut off", text(s.packet.Kind, counts[:n]), api.ErrShort)
		}
		for _, more := range [][]byte{{0}, {1}, {0x80}, {0x80, 0}, high(9), make([]byte, 300)} {
			refuse(t, s.name+" with more", text(s.packet.Kind, counts, more), api.ErrTail)
		}
	}
}

// replaced is a sample's pieces with another one at a place, and with nothing behind it but what is handed in.
func replaced(s sample, at int, piece any, behind ...any) []byte {
	l := append(append([]any{}, s.pieces[:at]...), piece)
	return text(s.packet.Kind, append(l, behind...)...)
}

// places is the places of the counts in a sample, but for those deep in a long one.
func places(s sample) []int {
	var l []int
	for i, p := range s.pieces {
		if _, ok := p.(count); ok && (i < 40 || i > len(s.pieces)-40) {
			l = append(l, i)
		}
	}
	return l
}

func TestDecodeOfCountsOutOfBounds(t *testing.T) {
	for _, s := range samples() {
		for _, at := range places(s) {
			c := s.pieces[at].(count)
			rest := s.pieces[at+1:]
			var bad []int
			if c.low > 0 {
				bad = append(bad, c.low-1, 0)
			}
			if c.high < api.MaxCount {
				bad = append(bad, c.high+1, api.MaxCount)
			}
			for _, v := range bad {
				refuse(t, s.name+", bounds", replaced(s, at, v, rest...), api.ErrPacket)
				refuse(t, s.name+", bounds, then nothing", replaced(s, at, v, high(8)), api.ErrPacket)
				refuse(t, s.name+", bounds, then no form", replaced(s, at, v, high(9)), api.ErrPacket)
			}
		}
	}
}

func TestDecodeOfCountsWithoutForm(t *testing.T) {
	for _, s := range samples() {
		for _, at := range places(s) {
			v := s.pieces[at].(count).v
			long := written([]any{v})
			long[len(long)-1] |= 0x80
			long = append(long, 0)
			rest := written(s.pieces[at+1:])
			refuse(t, s.name+", a byte too many", replaced(s, at, long, rest), api.ErrForm)
			refuse(t, s.name+", nine high bytes", replaced(s, at, high(9), rest), api.ErrForm)
			refuse(t, s.name+", nine high bytes and the end", replaced(s, at, high(9)), api.ErrForm)
			refuse(t, s.name+", above MaxCount", replaced(s, at, append(high(8), 0x41), rest), api.ErrForm)
			refuse(t, s.name+", eight high bytes and the end", replaced(s, at, high(8)), api.ErrShort)
		}
	}
}

// TestDecodeHoldsEachCountAgainstWhatIsAhead: the bounds that hang on other counts, and the order in which things are looked at.
func TestDecodeHoldsEachCountAgainstWhatIsAhead(t *testing.T) {
	view := []byte{2, 3, 4, 5}
	to := []byte{2, 6, 0, 1}
	bad := high(9)
	for _, c := range []struct {
		name string
		text []byte
		want api.Errno
	}{
		{"Dst is Src", text(1, 3, 1, 3, bad), api.ErrPacket},
		{"Dst is Src, 0", text(6, 0, 1, 0, 1, view, 1), api.ErrPacket},
		{"Src ahead of SrcInc's form", text(1, 16, bad), api.ErrPacket},
		{"SrcInc ahead of Dst", text(1, 2, bad, 16), api.ErrForm},
		{"DstInc 0 in a beat", text(1, 2, 6, 0, 0, 0, 1), api.ErrShort},
		{"DstInc 0 elsewhere", text(2, 2, 6, 0, 0, bad), api.ErrPacket},
		{"a whole ID's Epoch 0", text(4, to, 0, bad), api.ErrPacket},
		{"nothing follows no ID", text(2, to, 1, 1, 1, 1, 0, 0, 2, bad), api.ErrPacket},
		{"no ID, then zeros of one", text(2, to, 1, 1, 1, 1, 0, 0, 0, 0, 0, 1, 1), api.ErrPacket},
		{"Lead behind an Epoch", text(2, to, 1, 1, 1, 1, 0, 5, 16, bad), api.ErrPacket},
		{"Inc behind an Epoch", text(2, to, 1, 1, 1, 1, 0, 5, 1, 0, bad), api.ErrPacket},
		{"Cid behind an Epoch", text(2, to, 1, 1, 1, 1, 0, 5, 1, 1, 0, bad), api.ErrPacket},
		{"Vec longer than Set", text(2, to, 1, 1, 1, 1, 0, 0, 2, 0, 0), api.ErrPacket},
		{"Vec shorter than Set", text(2, to, 2, 1, 1, 1, 1, 0, 0, 1, 1), api.ErrPacket},
		{"Vec where Set is 0", text(2, to, 2, 0, 1, 1, 1, 0, 0, 2, 1, bad), api.ErrPacket},
		{"Vec where Set is not 0, then not", text(2, to, 2, 1, 0, 1, 1, 0, 0, 2, 5, 1, bad), api.ErrPacket},
		{"Slots with no room", text(3, to, view, 0, 128, 0, 1), api.ErrShort},
		{"Slots too many", text(3, to, view, 0, 129, 0, 0), api.ErrPacket},
		{"Slots' Sender ahead of Seq", text(3, to, view, 0, 1, 16, bad), api.ErrPacket},
		{"Prefix above Done", text(4, to, view, 3, 4), api.ErrPacket},
		{"Prefix above Done, and more", text(4, to, view, 3, 4, 0), api.ErrPacket},
		{"example 7: a frame of 0", text(5, to, view, 1, 0), api.ErrPacket},
		{"example 7: a frame of 301", text(5, to, view, 1, 301), api.ErrPacket},
		{"example 7: a frame of 301 that is there", text(5, to, view, 1, 301, make([]byte, 301)), api.ErrPacket},
		{"example 7: a frame of 300 with 299", text(5, to, view, 1, 300, make([]byte, 299)), api.ErrShort},
		{"example 7: a frame of 299 with 300", text(5, to, view, 1, 299, make([]byte, 300)), api.ErrTail},
		{"example 6: a Seq without form", text(7, to, view, 2, 15, api.MaxCount, 0, 0, 15, []byte{0x80, 0}), api.ErrForm},
		{"example 6: a Seq that does not rise", text(7, to, view, 2, 15, api.MaxCount, 0, 0, 15, 5), api.ErrPacket},
		{"a Seq behind MaxCount", text(7, to, view, 2, 15, api.MaxCount, 0, 0, 15, api.MaxCount), api.ErrPacket},
		{"the same Seq", text(7, to, view, 2, 1, 5, 0, 0, 1, 5, 0, 0), api.ErrPacket},
		{"a lower Seq", text(7, to, view, 2, 1, 5, 0, 0, 1, 4, bad), api.ErrPacket},
		{"a lower Sender", text(7, to, view, 2, 1, 5, 0, 0, 0, bad), api.ErrPacket},
		{"a higher Sender, Seq 0", text(7, to, view, 2, 1, 5, 0, 0, 2, 0, bad), api.ErrPacket},
		{"a third that falls", text(7, to, view, 3, 1, 5, 0, 0, 2, 1, 0, 0, 1, bad), api.ErrPacket},
		{"a chunk of 257", text(7, to, view, 1, 1, 5, 0, 257), api.ErrPacket},
		{"a chunk of 256 with 255", text(7, to, view, 1, 1, 5, 0, 256, make([]byte, 255)), api.ErrShort},
		{"no messages", text(7, to, view, 0), api.ErrPacket},
		{"129 messages", text(7, to, view, 129), api.ErrPacket},
	} {
		refuse(t, c.name, c.text, c.want)
	}
	for _, b := range [][]byte{
		text(7, to, view, 2, 1, 5, 0, 0, 1, 6, 0, 0),
		text(7, to, view, 2, 1, 5, 0, 0, 2, 1, 0, 0),
		text(4, to, view, 3, 3),
		text(2, to, 2, 0, 1, 1, 1, 0, 0, 2, 0, 7),
	} {
		p, e := wire.Decode(b)
		if e != api.OK {
			t.Errorf("W6: Decode(% x): error %d", b, e)
		}
		if back, _ := wire.Encode(p); !bytes.Equal(back, b) {
			t.Errorf("W7: Decode(% x) is encoded % x", b, back)
		}
	}
}

// TestWildTexts: whatever the bytes are, Decode ends; and what it takes is encoded as it was.
func TestWildTexts(t *testing.T) {
	source := rand.New(rand.NewSource(2))
	all := samples()
	taken := 0
	for n := range 60000 {
		s := all[n%len(all)]
		if len(s.pieces) > 100 && n%20 != 0 {
			continue
		}
		b := written(s.pieces)
		for range 1 + source.Intn(3) {
			b[source.Intn(min(len(b), 60))] = byte(source.Intn(256) >> source.Intn(8))
		}
		if source.Intn(4) == 0 {
			b = b[:source.Intn(len(b))]
		}
		whole := text(s.packet.Kind, b)
		p, e := wire.Decode(whole)
		if e != api.OK {
			if !zero(p) {
				t.Fatalf("W6: Decode(% x) = %+v beside error %d", whole, p, e)
			}
			continue
		}
		taken++
		if back, e := wire.Encode(p); e != api.OK || !bytes.Equal(back, whole) {
			t.Fatalf("W7: Decode(% x) is encoded % x, %d", whole, back, e)
		}
	}
	if taken < 1000 {
		t.Errorf("only %d texts were taken: too few to tell", taken)
	}
}

// turned is a text with the bits of a pattern turned, from bit at on.
func turned(text []byte, at int, pattern uint32) []byte {
	b := append([]byte{}, text...)
	for k := range 32 {
		if pattern>>k&1 == 1 && at+k < 8*len(b) {
			b[(at+k)/8] ^= 1 << ((at + k) % 8)
		}
	}
	return b
}

func TestTurnedBits(t *testing.T) {
	source := rand.New(rand.NewSource(4))
	for _, s := range samples() {
		good := s.text()
		bits := 8 * len(good)
		step := 1 + bits*bits/20000000 // the long texts at fewer places
		for at := 0; at < bits; at += step {
			for _, pattern := range []uint32{1, 3, 0x80000001, 0xffffffff, 0xedb88320, 0xdb710641, 0x01010101, source.Uint32() | 1} {
				b := turned(good, at, pattern)
				if bytes.Equal(b, good) { // all that was to be turned is beyond the text
					continue
				}
				if p, e := wire.Decode(b); e != api.ErrMagic && e != api.ErrSum || !zero(p) {
					t.Fatalf("W8: %s with %x turned at bit %d: error %d", s.name, pattern, at, e)
				}
			}
		}
	}
}

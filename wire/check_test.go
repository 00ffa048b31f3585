package wire_test

import (
	"bytes"
	"math"
	"math/rand"
	"testing"

	"quorate/api"
	"quorate/wire"
)

// change is one alteration of a sample packet.
type change struct {
	name string
	do   func(p *api.Packet)
}

// ordinary is the sample with this name, new at each call.
func ordinary(t *testing.T, name string) api.Packet {
	t.Helper()
	for _, s := range samples() {
		if s.name == name {
			return s.packet
		}
	}
	t.Fatalf("no sample %q", name)
	return api.Packet{}
}

func TestCheckTakesTheSamples(t *testing.T) {
	for _, s := range samples() {
		if e := wire.Check(s.packet); e != api.OK {
			t.Errorf("W4: %s: Check = %d", s.name, e)
		}
	}
}

func hold(t *testing.T, what string, p api.Packet, want api.Errno) {
	t.Helper()
	if e := wire.Check(p); e != want {
		t.Errorf("W4: %s: Check = %d, want %d", what, e, want)
	}
	b, e := wire.Encode(p)
	if e != want || (want != api.OK && b != nil) {
		t.Errorf("W5: %s: Encode = % x, %d, want error %d", what, b, e, want)
	}
	if want != api.OK || e != api.OK {
		return
	}
	if q, e := wire.Decode(b); e != api.OK || !same(p, q) {
		t.Errorf("W7: %s: it comes back as %+v, %d", what, q, e)
	}
}

func TestCheckOfHeads(t *testing.T) {
	names := []string{"beat", "propose", "flush", "stable", "frame", "ack", "forward"}
	for i, name := range names {
		for _, c := range []change{
			{"Src -1", func(p *api.Packet) { p.Src = -1 }}, {"Src 16", func(p *api.Packet) { p.Src = api.MaxNodes }}, {"Src is Dst", func(p *api.Packet) { p.Src = p.Dst }},
			{"Dst -1", func(p *api.Packet) { p.Dst = -1 }}, {"Dst 16", func(p *api.Packet) { p.Dst = api.MaxNodes }}, {"Dst is Src", func(p *api.Packet) { p.Dst = p.Src }},
			{"SrcInc 0", func(p *api.Packet) { p.SrcInc = 0 }}, {"SrcInc -1", func(p *api.Packet) { p.SrcInc = -1 }}, {"SrcInc too great", func(p *api.Packet) { p.SrcInc = api.MaxCount + 1 }},
			{"DstInc -1", func(p *api.Packet) { p.DstInc = -1 }}, {"DstInc too great", func(p *api.Packet) { p.DstInc = api.MaxCount + 1 }},
			{"Kind 0", func(p *api.Packet) { p.Kind = 0 }}, {"Kind -1", func(p *api.Packet) { p.Kind = -1 }}, {"Kind 8", func(p *api.Packet) { p.Kind = 8 }},
			{"Kind beyond a byte", func(p *api.Packet) { p.Kind += 256 }}, {"another Kind", func(p *api.Packet) { p.Kind = p.Kind%7 + 1 }},
		} {
			p := ordinary(t, name)
			c.do(&p)
			hold(t, name+", "+c.name, p, api.ErrPacket)
		}
		for _, c := range []change{
			{"Src 0, Dst 15", func(p *api.Packet) { p.Src, p.Dst = 0, api.MaxNodes-1 }}, {"Src 15, Dst 0", func(p *api.Packet) { p.Src, p.Dst = api.MaxNodes-1, 0 }},
			{"incarnations 1", func(p *api.Packet) { p.SrcInc, p.DstInc = 1, 1 }}, {"greatest incarnations", func(p *api.Packet) { p.SrcInc, p.DstInc = api.MaxCount, api.MaxCount }},
		} {
			p := ordinary(t, name)
			c.do(&p)
			hold(t, name+", "+c.name, p, api.OK)
		}
		p := ordinary(t, name)
		p.DstInc = 0
		want := api.ErrPacket
		if i+1 == api.KindBeat {
			want = api.OK
		}
		hold(t, name+", DstInc 0", p, want)
	}
}

// idChanges gives, for one place of an ID, what may stand there and what not.
func idChanges(at func(p *api.Packet) *api.ViewID, noneToo bool) (good, bad []change) {
	set := func(name string, id api.ViewID) change {
		return change{name, func(p *api.Packet) { *at(p) = id }}
	}
	good = []change{set("least ID", id1), set("greatest ID", idX)}
	zeroID := set("no ID", api.ViewID{})
	if noneToo {
		good = append(good, zeroID)
	} else {
		bad = append(bad, zeroID)
	}
	for _, v := range []int{math.MinInt, -1, 0, api.MaxCount + 1, math.MaxInt} {
		bad = append(bad,
			change{"Epoch", func(p *api.Packet) { at(p).Epoch = v }},
			change{"Inc", func(p *api.Packet) { at(p).Inc = v }},
			change{"Cid", func(p *api.Packet) { at(p).Cid = v }})
	}
	for _, v := range []int{-1, api.MaxNodes, math.MinInt, math.MaxInt} {
		bad = append(bad, change{"Lead", func(p *api.Packet) { at(p).Lead = v }})
	}
	bad = append(bad, set("Lead alone", api.ViewID{Lead: 1}), set("Epoch alone", api.ViewID{Epoch: 1}), set("Inc alone", api.ViewID{Inc: 1}), set("Cid alone", api.ViewID{Cid: 1}))
	return good, bad
}

// numberChanges gives, for one number from low to high, what may stand there and what not.
func numberChanges(name string, low, high int, at func(p *api.Packet) *int) (good, bad []change) {
	set := func(v int) change { return change{name, func(p *api.Packet) { *at(p) = v }} }
	good = []change{set(low), set(high)}
	for _, v := range []int{math.MinInt, -1, low - 1, high + 1, api.MaxCount + 1, math.MaxInt} {
		bad = append(bad, set(v))
	}
	return good, bad
}

func holdAll(t *testing.T, name string, good, bad []change) {
	t.Helper()
	for _, c := range good {
		p := ordinary(t, name)
		c.do(&p)
		hold(t, name+", good "+c.name, p, api.OK)
	}
	for _, c := range bad {
		p := ordinary(t, name)
		c.do(&p)
		hold(t, name+", bad "+c.name, p, api.ErrPacket)
	}
}

func TestCheckOfIDs(t *testing.T) {
	for _, c := range []struct {
		name    string
		at      func(p *api.Packet) *api.ViewID
		noneToo bool
	}{
		{"propose", func(p *api.Packet) *api.ViewID { return &p.Propose.Prev }, true},
		{"flush", func(p *api.Packet) *api.ViewID { return &p.Flush.Prev }, false},
		{"stable", func(p *api.Packet) *api.ViewID { return &p.Stable.View }, false},
		{"frame", func(p *api.Packet) *api.ViewID { return &p.Frame.Tag }, false},
		{"ack", func(p *api.Packet) *api.ViewID { return &p.Ack.Tag }, false},
		{"forward", func(p *api.Packet) *api.ViewID { return &p.Forward.Prev }, false},
	} {
		good, bad := idChanges(c.at, c.noneToo)
		holdAll(t, c.name, good, bad)
	}
}

func TestCheckOfNumbers(t *testing.T) {
	for _, c := range []struct {
		name, field string
		low, high   int
		at          func(p *api.Packet) *int
	}{
		{"beat", "Tick", 0, api.MaxCount, func(p *api.Packet) *int { return &p.Beat.Tick }},
		{"beat", "first of Hears", 0, api.MaxCount, func(p *api.Packet) *int { return &p.Beat.Hears[0] }},
		{"beat", "last of Hears", 0, api.MaxCount, func(p *api.Packet) *int { return &p.Beat.Hears[2] }},
		{"propose", "last of Set", 0, api.MaxCount, func(p *api.Packet) *int { return &p.Propose.Set[2] }},
		{"propose", "Cid", 1, api.MaxCount, func(p *api.Packet) *int { return &p.Propose.Cid }},
		{"propose", "Rev", 1, api.MaxCount, func(p *api.Packet) *int { return &p.Propose.Rev }},
		{"propose", "Top", 0, api.MaxCount, func(p *api.Packet) *int { return &p.Propose.Top }},
		{"propose", "first of Vec", 0, api.MaxCount, func(p *api.Packet) *int { return &p.Propose.Vec[0] }},
		{"propose", "Vec where Set is 0", 0, 0, func(p *api.Packet) *int { return &p.Propose.Vec[1] }},
		{"propose", "last of Vec", 0, api.MaxCount, func(p *api.Packet) *int { return &p.Propose.Vec[2] }},
		{"propose", "Set where Vec is not 0", 1, api.MaxCount, func(p *api.Packet) *int { return &p.Propose.Set[0] }},
		{"flush", "Base", 0, api.MaxCount, func(p *api.Packet) *int { return &p.Flush.Base }},
		{"flush", "first Sender", 0, api.MaxNodes - 1, func(p *api.Packet) *int { return &p.Flush.Slots[0].Sender }},
		{"flush", "first Seq", 1, api.MaxCount, func(p *api.Packet) *int { return &p.Flush.Slots[0].Seq }},
		{"flush", "last Sender", 0, api.MaxNodes - 1, func(p *api.Packet) *int { return &p.Flush.Slots[1].Sender }},
		{"flush", "last Seq", 1, api.MaxCount, func(p *api.Packet) *int { return &p.Flush.Slots[1].Seq }},
		{"flush", "first of Have", 0, api.MaxCount, func(p *api.Packet) *int { return &p.Flush.Have[0] }},
		{"flush", "last of Have", 0, api.MaxCount, func(p *api.Packet) *int { return &p.Flush.Have[2] }},
		{"stable", "Done", 128, api.MaxCount, func(p *api.Packet) *int { return &p.Stable.Done }},
		{"stable", "Prefix", 0, 129, func(p *api.Packet) *int { return &p.Stable.Prefix }},
		{"frame", "Seq", 1, api.MaxCount, func(p *api.Packet) *int { return &p.Frame.Seq }},
		{"ack", "Upto", 0, api.MaxCount, func(p *api.Packet) *int { return &p.Ack.Upto }},
		{"forward", "first Sender", 0, 1, func(p *api.Packet) *int { return &p.Forward.Msgs[0].Sender }},
		{"forward", "first Seq", 1, 6, func(p *api.Packet) *int { return &p.Forward.Msgs[0].Seq }},
		{"forward", "first Stable", 0, api.MaxCount, func(p *api.Packet) *int { return &p.Forward.Msgs[0].Stable }},
		{"forward", "second Seq", 6, api.MaxCount, func(p *api.Packet) *int { return &p.Forward.Msgs[1].Seq }},
		{"forward", "third Seq", 1, 1, func(p *api.Packet) *int { return &p.Forward.Msgs[2].Seq }},
		{"forward", "last Sender", 4, api.MaxNodes - 1, func(p *api.Packet) *int { return &p.Forward.Msgs[3].Sender }},
		{"forward", "last Seq", 2, api.MaxCount, func(p *api.Packet) *int { return &p.Forward.Msgs[3].Seq }},
		{"forward", "last Stable", 0, api.MaxCount, func(p *api.Packet) *int { return &p.Forward.Msgs[3].Stable }},
	} {
		good, bad := numberChanges(c.field, c.low, c.high, c.at)
		holdAll(t, c.name, good, bad)
	}
}

func TestCheckOfLengths(t *testing.T) {
	ints := func(n int) []int { return repeated(n, 1) }
	slots := func(n int) []api.Slot { return repeated(n, api.Slot{Seq: 1}) }
	msgs := func(n int) []api.Data {
		var l []api.Data
		for i := range n {
			l = append(l, api.Data{Sender: i * api.MaxNodes / max(n, api.MaxNodes), Seq: i + 1})
		}
		return l
	}
	for _, c := range []struct {
		name, field string
		low, high   int
		set         func(p *api.Packet, n int)
	}{
		{"beat", "Hears", 1, api.MaxNodes, func(p *api.Packet, n int) { p.Beat.Hears = ints(n) }},
		{"propose", "Set and Vec", 1, api.MaxNodes, func(p *api.Packet, n int) { p.Propose.Set, p.Propose.Vec = ints(n), ints(n) }},
		{"propose", "Vec", 3, 3, func(p *api.Packet, n int) { p.Propose.Vec = make([]int, n) }},
		{"propose", "Set", 3, 3, func(p *api.Packet, n int) { p.Propose.Set = ints(n) }},
		{"flush", "Slots", 0, api.MaxHeld, func(p *api.Packet, n int) { p.Flush.Slots = slots(n) }},
		{"flush", "Have", 1, api.MaxNodes, func(p *api.Packet, n int) { p.Flush.Have = ints(n) }},
		{"frame", "Body", 1, api.MaxItem, func(p *api.Packet, n int) { p.Frame.Body = make([]byte, n) }},
		{"forward", "Msgs", 1, api.MaxHeld, func(p *api.Packet, n int) { p.Forward.Msgs = msgs(n) }},
		{"forward", "a Body", 0, api.MaxChunk, func(p *api.Packet, n int) { p.Forward.Msgs[1].Body = make([]byte, n) }},
		{"forward", "the last Body", 0, api.MaxChunk, func(p *api.Packet, n int) { p.Forward.Msgs[3].Body = make([]byte, n) }},
	} {
		for _, n := range []int{0, 1, c.low - 1, c.low, c.high, c.high + 1, 1000} {
			if n < 0 {
				continue
			}
			want := api.OK
			if n < c.low || n > c.high {
				want = api.ErrPacket
			}
			p := ordinary(t, c.name)
			c.set(&p, n)
			hold(t, c.name+", length of "+c.field, p, want)
		}
	}
}

func TestCheckOfMessagesThatDoNotRise(t *testing.T) {
	for _, c := range []struct {
		msgs []api.Data
		want api.Errno
	}{
		{[]api.Data{{Sender: 1, Seq: 5}, {Sender: 1, Seq: 6}}, api.OK},
		{[]api.Data{{Sender: 1, Seq: 5}, {Sender: 1, Seq: 5}}, api.ErrPacket},
		{[]api.Data{{Sender: 1, Seq: 5}, {Sender: 1, Seq: 4}}, api.ErrPacket},
		{[]api.Data{{Sender: 1, Seq: 5}, {Sender: 2, Seq: 1}}, api.OK},
		{[]api.Data{{Sender: 1, Seq: 5}, {Sender: 0, Seq: 6}}, api.ErrPacket},
		{[]api.Data{{Sender: 1, Seq: 5}, {Sender: 2, Seq: 1}, {Sender: 1, Seq: 6}}, api.ErrPacket},
		{[]api.Data{{Sender: 0, Seq: 1}, {Sender: 0, Seq: 2}, {Sender: 0, Seq: 2}}, api.ErrPacket},
		{[]api.Data{{Sender: 15, Seq: api.MaxCount}, {Sender: 15, Seq: api.MaxCount}}, api.ErrPacket},
		{[]api.Data{{Sender: 0, Seq: api.MaxCount}, {Sender: 15, Seq: 1}}, api.OK},
	} {
		p := ordinary(t, "forward")
		p.Forward.Msgs = c.msgs
		hold(t, "forward", p, c.want)
	}
}

// strays gives alterations of a part, by the kind that the part belongs to: none of them may be in a packet of another kind.
func strays() [][]change {
	ids := func(at func(p *api.Packet) *api.ViewID) []change {
		return []change{{"Epoch", func(p *api.Packet) { at(p).Epoch = 1 }}, {"Lead", func(p *api.Packet) { at(p).Lead = 1 }}, {"Inc", func(p *api.Packet) { at(p).Inc = -1 }}, {"Cid", func(p *api.Packet) { at(p).Cid = 1 }}}
	}
	return [][]change{
		nil,
		{{"Tick", func(p *api.Packet) { p.Beat.Tick = 1 }}, {"Hears", func(p *api.Packet) { p.Beat.Hears = []int{0} }}},
		append(ids(func(p *api.Packet) *api.ViewID { return &p.Propose.Prev }), []change{{"Set", func(p *api.Packet) { p.Propose.Set = []int{0} }}, {"Propose.Cid", func(p *api.Packet) { p.Propose.Cid = 1 }}, {"Rev", func(p *api.Packet) { p.Propose.Rev = -1 }}, {"Top", func(p *api.Packet) { p.Propose.Top = 1 }}, {"Vec", func(p *api.Packet) { p.Propose.Vec = []int{0} }}}...),
		append(ids(func(p *api.Packet) *api.ViewID { return &p.Flush.Prev }), []change{{"Base", func(p *api.Packet) { p.Flush.Base = 1 }}, {"Slots", func(p *api.Packet) { p.Flush.Slots = []api.Slot{{}} }}, {"Have", func(p *api.Packet) { p.Flush.Have = []int{0} }}}...),
		append(ids(func(p *api.Packet) *api.ViewID { return &p.Stable.View }), []change{{"Done", func(p *api.Packet) { p.Stable.Done = 1 }}, {"Prefix", func(p *api.Packet) { p.Stable.Prefix = -1 }}}...),
		append(ids(func(p *api.Packet) *api.ViewID { return &p.Frame.Tag }), []change{{"Seq", func(p *api.Packet) { p.Frame.Seq = 1 }}, {"Body", func(p *api.Packet) { p.Frame.Body = []byte{0} }}}...),
		append(ids(func(p *api.Packet) *api.ViewID { return &p.Ack.Tag }), change{"Upto", func(p *api.Packet) { p.Ack.Upto = 1 }}),
		append(ids(func(p *api.Packet) *api.ViewID { return &p.Forward.Prev }), change{"Msgs", func(p *api.Packet) { p.Forward.Msgs = []api.Data{{}} }}),
	}
}

func TestCheckRefusesWhatIsInAnotherPart(t *testing.T) {
	for _, s := range samples() {
		for kind, l := range strays() {
			for _, c := range l {
				if kind == s.packet.Kind {
					continue
				}
				p := plain(s.packet)
				c.do(&p)
				hold(t, s.name+" with "+c.name, p, api.ErrPacket)
			}
		}
	}
}

func TestEmptyListsAreAsNone(t *testing.T) {
	for _, s := range samples() {
		p := plain(s.packet)
		for _, l := range []*[]int{&p.Beat.Hears, &p.Propose.Set, &p.Propose.Vec, &p.Flush.Have} {
			if *l == nil {
				*l = []int{}
			}
		}
		if p.Flush.Slots == nil {
			p.Flush.Slots = []api.Slot{}
		}
		if p.Frame.Body == nil {
			p.Frame.Body = []byte{}
		}
		if p.Forward.Msgs == nil {
			p.Forward.Msgs = []api.Data{}
		}
		for i := range p.Forward.Msgs {
			p.Forward.Msgs[i].Body = append([]byte{}, p.Forward.Msgs[i].Body...)
		}
		hold(t, s.name+" with empty lists", p, api.OK)
		if b, _ := wire.Encode(p); !bytes.Equal(b, s.text()) {
			t.Errorf("W5: %s: empty lists change the text", s.name)
		}
	}
}

// TestWildPackets: whatever a packet holds, Check and Encode end and agree, and what they take comes back.
func TestWildPackets(t *testing.T) {
	source := rand.New(rand.NewSource(1))
	number := func() int { return wild[source.Intn(len(wild))] }
	list := func() []int {
		l := make([]int, source.Intn(20))
		for i := range l {
			l[i] = number()
		}
		return l
	}
	id := func() api.ViewID { return api.ViewID{Epoch: number(), Lead: number(), Inc: number(), Cid: number()} }
	parts := []func(p *api.Packet){
		func(p *api.Packet) {
			p.Head = api.Head{Kind: number(), Src: number(), SrcInc: number(), Dst: number(), DstInc: number()}
		},
		func(p *api.Packet) { p.Beat = api.Beat{Tick: number(), Hears: list()} },
		func(p *api.Packet) {
			p.Propose = api.Propose{Set: list(), Cid: number(), Rev: number(), Top: number(), Prev: id(), Vec: list()}
		},
		func(p *api.Packet) {
			p.Flush = api.Flush{Prev: id(), Base: number(), Slots: []api.Slot{{Sender: number(), Seq: number()}}, Have: list()}
		},
		func(p *api.Packet) { p.Stable = api.Stable{View: id(), Done: number(), Prefix: number()} },
		func(p *api.Packet) {
			p.Frame = api.Frame{Tag: id(), Seq: number(), Body: make([]byte, source.Intn(400))}
		},
		func(p *api.Packet) { p.Ack = api.Ack{Tag: id(), Upto: number()} },
		func(p *api.Packet) {
			p.Forward = api.Forward{Prev: id(), Msgs: []api.Data{{Sender: number(), Seq: number(), Stable: number()}, {Sender: number(), Seq: number(), Body: make([]byte, source.Intn(400))}}}
		},
	}
	all := samples()
	for range 20000 {
		var p api.Packet
		if source.Intn(2) == 0 {
			p = plain(all[source.Intn(len(all))].packet)
		}
		parts[source.Intn(len(parts))](&p)
		hold(t, "wild", p, wire.Check(p))
	}
}

package order_test

import (
	"bytes"
	"math"
	"math/rand"
	"slices"
	"strconv"
	"strings"
	"testing"

	"quorate/api"
	"quorate/order"
)

var viewID = api.ViewID{Epoch: 4, Lead: 0, Inc: 1, Cid: 3}

func view(pids ...int) api.View {
	v := api.View{ID: viewID}
	for _, p := range pids {
		v.Members = append(v.Members, api.Member{Pid: p, Inc: 1 + p, Cid: 3})
	}
	return v
}

func made(t *testing.T, v api.View, self, window int) *order.Order {
	t.Helper()
	o, e := order.New(v, self, window)
	if o == nil || e != api.OK {
		t.Fatalf("O1: New(%v, %d, %d): error %d, want an Order", v, self, window, e)
	}
	return o
}

func message(sender, seq, stable int, body string) api.Data {
	return api.Data{Sender: sender, Seq: seq, Stable: stable, Body: []byte(body)}
}

func data(sender, seq, stable int, body string) api.Item {
	return api.Item{Kind: api.ItemData, Data: message(sender, seq, stable, body)}
}

func slot(pos, stable, sender, seq int) api.Item {
	return api.Item{Kind: api.ItemSlot, Pos: pos, Stable: stable, Slot: api.Slot{Sender: sender, Seq: seq}}
}

func stable(done, prefix int) api.Stable {
	return api.Stable{View: viewID, Done: done, Prefix: prefix}
}

func sameData(a, b api.Data) bool {
	return a.Sender == b.Sender && a.Seq == b.Seq && a.Stable == b.Stable && bytes.Equal(a.Body, b.Body)
}

func sameItem(a, b api.Item) bool {
	return a.Kind == b.Kind && a.Pos == b.Pos && a.Stable == b.Stable && a.Slot == b.Slot && sameData(a.Data, b.Data)
}

func sameMsg(a, b api.Msg) bool {
	return a.Pos == b.Pos && a.Sender == b.Sender && a.Seq == b.Seq && bytes.Equal(a.Body, b.Body)
}

func sameFlush(a, b api.Flush) bool {
	return a.Prev == b.Prev && a.Base == b.Base && slices.Equal(a.Slots, b.Slots) && slices.Equal(a.Have, b.Have)
}

// written is a list of deliveries as the chapter writes it: 1 2/1 a, 2 2/2 b.
func written(l []api.Msg) string {
	var words []string
	for _, m := range l {
		words = append(words, strconv.Itoa(m.Pos)+" "+strconv.Itoa(m.Sender)+"/"+strconv.Itoa(m.Seq)+" "+string(m.Body))
	}
	return strings.Join(words, ", ")
}

func wantSend(t *testing.T, o *order.Order, body string, want api.Data) {
	t.Helper()
	want.Body = []byte(body)
	if d, e := o.Send([]byte(body)); e != api.OK || !sameData(d, want) {
		t.Fatalf("O2: Send(%q) = %v, error %d, want %v", body, d, e, want)
	}
}

func wantNoSend(t *testing.T, o *order.Order, body []byte, want api.Errno) {
	t.Helper()
	if d, e := o.Send(body); e != want || !sameData(d, api.Data{}) {
		t.Fatalf("O2: Send of %d bytes = %v, error %d, want the zero Data, error %d", len(body), d, e, want)
	}
}

func wantPlace(t *testing.T, o *order.Order, from int, it api.Item, want api.Errno) {
	t.Helper()
	if e := o.Place(from, it); e != want {
		t.Fatalf("O4: Place(%d, %v): error %d, want %d", from, it, e, want)
	}
}

func wantAssign(t *testing.T, o *order.Order, most int, want ...api.Item) {
	t.Helper()
	if l := o.Assign(most); !slices.EqualFunc(l, want, sameItem) {
		t.Fatalf("O5: Assign(%d) = %v, want %v", most, l, want)
	}
}

func wantDeliver(t *testing.T, o *order.Order, most int, want string) {
	t.Helper()
	if l := o.Deliver(most); written(l) != want {
		t.Fatalf("O6: Deliver(%d) = %s, want %s", most, written(l), want)
	}
}

func wantHear(t *testing.T, o *order.Order, q int, s api.Stable, want api.Errno) {
	t.Helper()
	if e := o.Hear(q, s); e != want {
		t.Fatalf("O7: Hear(%d, %v): error %d, want %d", q, s, e, want)
	}
}

// stand is what an Order tells in numbers.
type stand struct{ done, prefix, held, free, sent, delivered int }

func wantStand(t *testing.T, o *order.Order, want stand) {
	t.Helper()
	got := stand{done: o.Done(), prefix: o.Prefix(), held: o.Held(), free: o.Free()}
	got.sent, got.delivered = o.Own()
	if got != want {
		t.Fatalf("O3, O6 to O8: it stands at %+v, want %+v", got, want)
	}
	if s := o.Told(); s != (api.Stable{View: viewID, Done: want.done, Prefix: want.prefix}) {
		t.Fatalf("O8: Told = %v, Done is %d, Prefix %d", s, want.done, want.prefix)
	}
}

func wantSeen(t *testing.T, o *order.Order, want ...int) {
	t.Helper()
	for _, q := range append(far(), 0, 1, 2, 3, 4, 5, 6, 7, 8, 9, 10, 11, 12, 13, 14, 15, 16) {
		if o.Seen(q) != slices.Contains(want, q) {
			t.Fatalf("O8: Seen(%d) = %v, want those seen to be %v", q, o.Seen(q), want)
		}
	}
}

func wantMessages(t *testing.T, o *order.Order, want ...api.Data) {
	t.Helper()
	if l := o.Messages(); !slices.EqualFunc(l, want, sameData) {
		t.Fatalf("O10: Messages = %v, want %v", l, want)
	}
}

// wantContent: what Content tells for all sixteen nodes; have is by node, with 0 behind its end.
func wantContent(t *testing.T, o *order.Order, base int, slots []api.Slot, have ...int) {
	t.Helper()
	want := api.Flush{Prev: viewID, Base: base, Slots: slots, Have: append(have, make([]int, api.MaxNodes-len(have))...)}
	if f := o.Content(api.MaxNodes); !sameFlush(f, want) {
		t.Fatalf("O10: Content = %v, want %v", f, want)
	}
}

// far are numbers that are no node's and no counter's.
func far() []int { return []int{math.MinInt, -api.MaxCount, -1, api.MaxCount + 1, math.MaxInt} }

// seen is all that an Order tells without changing.
type seen struct {
	stand
	told     api.Stable
	frozen   bool
	seen     [api.MaxNodes + 2]bool // from node -1 on
	content  api.Flush
	messages []api.Data
}

// teller is what tells: an Order, or the model of one.
type teller interface {
	Told() api.Stable
	Content(nodes int) api.Flush
	Messages() []api.Data
	Frozen() bool
	Seen(q int) bool
	Done() int
	Prefix() int
	Free() int
	Own() (int, int)
	Held() int
}

func look(o teller) seen {
	s := seen{told: o.Told(), frozen: o.Frozen(), content: o.Content(api.MaxNodes), messages: o.Messages()}
	s.done, s.prefix, s.held, s.free = o.Done(), o.Prefix(), o.Held(), o.Free()
	s.sent, s.delivered = o.Own()
	for k := range s.seen {
		s.seen[k] = o.Seen(k - 1)
	}
	return s
}

func sameSeen(a, b seen) bool {
	return a.stand == b.stand && a.told == b.told && a.frozen == b.frozen && a.seen == b.seen &&
		sameFlush(a.content, b.content) && slices.EqualFunc(a.messages, b.messages, sameData)
}

// answer is what a call that does something answers.
type answer struct {
	e     api.Errno
	data  api.Data
	items []api.Item
	msgs  []api.Msg
}

func sameAnswer(a, b answer) bool {
	return a.e == b.e && sameData(a.data, b.data) &&
		slices.EqualFunc(a.items, b.items, sameItem) && slices.EqualFunc(a.msgs, b.msgs, sameMsg)
}

// wantSame holds two Orders against each other in all that can be found out: what was told, and which message came first, shows only in what later calls answer, so both go on alike for a while.
func wantSame(t *testing.T, what string, v api.View, self int, o, twin *order.Order) {
	t.Helper()
	r := rand.New(rand.NewSource(1))
	for k := range 300 {
		got, want := look(o), look(twin)
		if !sameSeen(got, want) {
			t.Fatalf("%s: in step %d of looking it tells %v, want %v", what, k, got, want)
		}
		do := wildCall(r, v, self, want)
		if got, want := do(o), do(twin); !sameAnswer(got, want) {
			t.Fatalf("%s: in step %d of looking it answers %v, want %v", what, k, got, want)
		}
	}
}

// busyOne is an Order in the midst of its view, and whose.
type busyOne struct {
	self int
	make func(t *testing.T) *order.Order
}

func busyOnes() []busyOne { return []busyOne{{0, atFirst}, {2, atSecond}, {2, atFrozen}} }

// atFirst is the sequencer of the nodes 0, 2, 5 with the window 2: two of the three positions are delivered, one of them everywhere; of its own messages and of node 2's some have no position.
func atFirst(t *testing.T) *order.Order {
	t.Helper()
	o := made(t, view(0, 2, 5), 0, 2)
	wantPlace(t, o, 2, data(2, 1, 0, "a"), api.OK)
	wantPlace(t, o, 5, data(5, 1, 0, "b"), api.OK)
	wantSend(t, o, "c", api.Data{Sender: 0, Seq: 1})
	wantAssign(t, o, 2, slot(1, 0, 2, 1), slot(2, 0, 5, 1))
	wantDeliver(t, o, 2, "1 2/1 a, 2 5/1 b")
	wantHear(t, o, 2, stable(2, 0), api.OK)
	wantHear(t, o, 5, stable(1, 0), api.OK)
	wantPlace(t, o, 2, data(2, 2, 1, "d"), api.OK)
	wantSend(t, o, "", api.Data{Sender: 0, Seq: 2, Stable: 1})
	wantAssign(t, o, 1, slot(3, 1, 0, 1))
	wantStand(t, o, stand{done: 2, prefix: 1, held: 4, free: 0, sent: 2, delivered: 0})
	return o
}

// atSecond is node 2 of the same view: two of the three positions are delivered, one of them everywhere; the third one's message has not come.
func atSecond(t *testing.T) *order.Order {
	t.Helper()
	o := made(t, view(0, 2, 5), 2, 2)
	wantSend(t, o, "a", api.Data{Sender: 2, Seq: 1})
	wantSend(t, o, "b", api.Data{Sender: 2, Seq: 2})
	wantPlace(t, o, 0, slot(1, 0, 2, 1), api.OK)
	wantPlace(t, o, 0, slot(2, 0, 0, 1), api.OK)
	wantPlace(t, o, 0, slot(3, 0, 5, 1), api.OK)
	wantPlace(t, o, 0, data(0, 1, 0, "c"), api.OK)
	wantDeliver(t, o, 9, "1 2/1 a, 2 0/1 c")
	wantHear(t, o, 0, stable(2, 0), api.OK)
	wantHear(t, o, 5, stable(1, 1), api.OK)
	wantStand(t, o, stand{done: 2, prefix: 1, held: 2, free: 1, sent: 2, delivered: 1})
	return o
}

// atFrozen is atSecond, frozen.
func atFrozen(t *testing.T) *order.Order {
	t.Helper()
	o := atSecond(t)
	o.Freeze()
	return o
}

// wantUnchanged lets Orders do what must change nothing.
func wantUnchanged(t *testing.T, what string, do func(o *order.Order)) {
	t.Helper()
	for _, b := range busyOnes() {
		o := b.make(t)
		do(o)
		wantSame(t, what, view(0, 2, 5), b.self, o, b.make(t))
	}
}

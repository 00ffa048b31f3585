package order_test

import (
	"math/rand"
	"slices"
	"testing"

	"quorate/api"
	"quorate/order"
	"quorate/wire"
)

// one is a member among others, with what the test knows of it.
type one struct {
	*order.Order
	pid    int
	made   []api.Item   // what its calls answered, for the others
	came   []int        // by member's place: how many of that one's items have come here
	told   []api.Stable // all that it ever told
	frozen bool
}

// crew are the members of one view.
type crew struct {
	window int
	ones   []*one
	log    []api.Msg             // the longest list that any of them has delivered
	sent   map[api.Slot]api.Data // all that was sent
	cut    map[[2]int]struct{}   // from whom to whom nothing more is carried
	count  map[int]int           // by sender: how many are in log
}

func newCrew(t *testing.T, pids []int, window int) *crew {
	t.Helper()
	c := &crew{window: window, sent: map[api.Slot]api.Data{}, cut: map[[2]int]struct{}{}, count: map[int]int{}}
	for _, p := range pids {
		c.ones = append(c.ones, &one{Order: made(t, view(pids...), p, window), pid: p, came: make([]int, len(pids))})
	}
	return c
}

func (c *crew) send(o *one, body []byte) {
	d, e := o.Send(body)
	if e == api.OK {
		c.sent[api.Slot{Sender: d.Sender, Seq: d.Seq}] = d
		o.made = append(o.made, api.Item{Kind: api.ItemData, Data: d})
	}
}

func (c *crew) assign(t *testing.T, o *one, most int) {
	t.Helper()
	l := o.Assign(most)
	if len(l) > 0 && o != c.ones[0] {
		t.Fatalf("O5: node %d gives positions", o.pid)
	}
	o.made = append(o.made, l...)
}

// carry brings the next item of the member at place i to o.
func (c *crew) carry(t *testing.T, i int, o *one) {
	t.Helper()
	from := c.ones[i]
	if from == o || o.came[i] == len(from.made) {
		return
	}
	e := o.Place(from.pid, from.made[o.came[i]])
	if o.frozen != (e == api.ErrFrozen) || !o.frozen && e != api.OK {
		t.Fatalf("O11: Place(%d, %v) at node %d: error %d", from.pid, from.made[o.came[i]], o.pid, e)
	}
	if e == api.OK {
		o.came[i]++
	}
}

func (c *crew) hear(t *testing.T, from, o *one, s api.Stable) {
	t.Helper()
	if e := o.Hear(from.pid, s); o.frozen != (e == api.ErrFrozen) || !o.frozen && e != api.OK {
		t.Fatalf("O11: Hear(%d, %v) at node %d: error %d", from.pid, s, o.pid, e)
	}
}

// deliver holds what one member delivers against what any has delivered, and against what was sent: O12.
func (c *crew) deliver(t *testing.T, o *one, most int) {
	t.Helper()
	done := o.Done()
	for _, m := range o.Deliver(most) {
		done++
		if m.Pos != done {
			t.Fatalf("O12: node %d delivers %v at position %d", o.pid, m, done)
		}
		if done <= len(c.log) {
			if !sameMsg(m, c.log[done-1]) {
				t.Fatalf("O12: node %d delivers %v, another one %v", o.pid, m, c.log[done-1])
			}
			continue
		}
		c.count[m.Sender]++
		d, was := c.sent[api.Slot{Sender: m.Sender, Seq: m.Seq}]
		if !was || m.Seq != c.count[m.Sender] || string(m.Body) != string(d.Body) {
			t.Fatalf("O12: node %d delivers %v, which was sent as %v (%v), as number %d of its sender", o.pid, m, d, was, c.count[m.Sender])
		}
		c.log = append(c.log, m)
	}
	if done != o.Done() {
		t.Fatalf("O6: node %d has delivered up to %d, Done is %d", o.pid, done, o.Done())
	}
}

// least is how many positions all have delivered.
func (c *crew) least() int {
	n := len(c.log)
	for _, o := range c.ones {
		n = min(n, o.Done())
	}
	return n
}

// check holds a member against O13 to O15.
func (c *crew) check(t *testing.T, o *one) {
	t.Helper()
	least := c.least()
	if o.Prefix() > least {
		t.Fatalf("O13: node %d has the Prefix %d, some have delivered up to %d", o.pid, o.Prefix(), least)
	}
	f, msgs := o.Content(api.MaxNodes), o.Messages()
	c.checkBounds(t, o, f, msgs)
	by := map[api.Slot]api.Data{}
	for _, d := range msgs {
		by[api.Slot{Sender: d.Sender, Seq: d.Seq}] = d
	}
	for _, m := range c.log[:least] {
		by[api.Slot{Sender: m.Sender, Seq: m.Seq}] = c.sent[api.Slot{Sender: m.Sender, Seq: m.Seq}]
	}
	for sender, have := range f.Have {
		for seq := 1; seq <= have; seq++ {
			s := api.Slot{Sender: sender, Seq: seq}
			if d, held := by[s]; !held || !sameData(d, c.sent[s]) {
				t.Fatalf("O15: node %d has taken %v, and has %v (%v) of it", o.pid, c.sent[s], d, held)
			}
		}
	}
}

func (c *crew) checkBounds(t *testing.T, o *one, f api.Flush, msgs []api.Data) {
	t.Helper()
	held := map[int]int{}
	for _, d := range msgs {
		held[d.Sender]++
		if held[d.Sender] > c.window {
			t.Fatalf("O14: node %d holds %d of %d", o.pid, held[d.Sender], d.Sender)
		}
	}
	if len(f.Slots) > len(c.ones)*c.window || len(msgs) != o.Held() {
		t.Fatalf("O14: node %d knows %d positions behind its Prefix; %d are held, Held is %d", o.pid, len(f.Slots), len(msgs), o.Held())
	}
	head := api.Head{Src: 0, SrcInc: 1, Dst: 1, DstInc: 1}
	p := api.Packet{Head: head, Flush: f}
	p.Kind = api.KindFlush
	if e := wire.Check(p); e != api.OK {
		t.Fatalf("O14: Content %v of node %d is no part of a packet", f, o.pid)
	}
	p = api.Packet{Head: head, Forward: api.Forward{Prev: viewID, Msgs: msgs}}
	p.Kind = api.KindForward
	if e := wire.Check(p); len(msgs) > 0 && e != api.OK {
		t.Fatalf("O14: Messages %v of node %d are no part of a packet", msgs, o.pid)
	}
}

// step lets one thing happen that may.
func (c *crew) step(t *testing.T, r *rand.Rand) {
	t.Helper()
	i, j := r.Intn(len(c.ones)), r.Intn(len(c.ones))
	from, o := c.ones[i], c.ones[j]
	_, isCut := c.cut[[2]int{i, j}]
	switch k := r.Intn(20); {
	case k < 4:
		c.send(o, wildBody(r))
	case k < 11 && !isCut:
		for range 1 + r.Intn(3) {
			c.carry(t, i, o)
		}
	case k < 13:
		c.assign(t, c.ones[0], 1+r.Intn(3))
	case k < 17:
		c.deliver(t, o, 1+r.Intn(3))
	case i != j:
		from.told = append(from.told, from.Told())
		at := len(from.told) - 1
		if r.Intn(3) == 0 {
			at = r.Intn(len(from.told))
		}
		c.hear(t, from, o, from.told[at])
	}
	c.check(t, o)
}

// turn is one turn of O16.
func (c *crew) turn(t *testing.T) {
	t.Helper()
	carryAll := func() {
		for i, from := range c.ones {
			for range from.made {
				for _, o := range c.ones {
					c.carry(t, i, o)
				}
			}
		}
	}
	carryAll()
	for _, o := range c.ones {
		c.assign(t, o, api.MaxCount)
	}
	carryAll()
	for _, o := range c.ones {
		c.deliver(t, o, api.MaxCount)
		c.check(t, o)
	}
	for _, from := range c.ones {
		for _, o := range c.ones {
			if o != from {
				c.hear(t, from, o, from.Told())
			}
		}
	}
}

func (c *crew) wantSettled(t *testing.T) {
	t.Helper()
	all := len(c.sent)
	for _, o := range c.ones {
		if len(c.log) != all || o.Done() != all || o.Prefix() != all || o.Held() != 0 || o.Free() != c.window || len(o.Messages()) != 0 || len(o.Content(16).Slots) != 0 {
			t.Fatalf("O16: %d were sent; node %d has delivered %d, its Prefix is %d, %d are held, %d are free", all, o.pid, o.Done(), o.Prefix(), o.Held(), o.Free())
		}
	}
}

func wildCrew(t *testing.T, r *rand.Rand) *crew {
	t.Helper()
	_, _, window := wildView(r)
	count := 1 + r.Intn(4)
	if r.Intn(40) == 0 {
		count = api.MaxNodes
	}
	pids := r.Perm(api.MaxNodes)[:count]
	slices.Sort(pids)
	return newCrew(t, pids, window)
}

// TestWhateverComesOfIt: O11 to O15, with members that freeze and paths over which nothing more comes.
func TestWhateverComesOfIt(t *testing.T) {
	r := rand.New(rand.NewSource(11))
	delivered, behind, dropped, full := 0, 0, 0, 0
	for range 700 {
		c := wildCrew(t, r)
		for range 50 + r.Intn(400) {
			c.step(t, r)
			switch r.Intn(400) {
			case 0:
				o := c.ones[r.Intn(len(c.ones))]
				o.Freeze()
				o.frozen = true
			case 1:
				c.cut[[2]int{r.Intn(len(c.ones)), r.Intn(len(c.ones))}] = struct{}{}
			}
		}
		for _, o := range c.ones {
			delivered += o.Done()
			behind += len(c.log) - o.Done()
			dropped += o.Prefix()
			if o.Held() == len(c.ones)*c.window {
				full++
			}
		}
	}
	if delivered < 10000 || behind < 1000 || dropped < 5000 || full < 50 {
		t.Errorf("the pasts are too tame: %d delivered, %d behind the first, %d dropped, %d hold all that they may", delivered, behind, dropped, full)
	}
}

// TestGoesOn: O16, from points in the midst of it, and again behind it.
func TestGoesOn(t *testing.T) {
	r := rand.New(rand.NewSource(16))
	waiting := 0
	for range 400 {
		c := wildCrew(t, r)
		for range 3 {
			for range r.Intn(200) {
				c.step(t, r)
			}
			waiting += len(c.sent) - len(c.log)
			c.turn(t)
			c.wantSettled(t)
		}
	}
	if waiting < 1000 {
		t.Errorf("the pasts are too tame: %d messages had to be delivered in the turn", waiting)
	}
}

package flush_test

import (
	"math/rand"
	"slices"
	"testing"

	"quorate/api"
	"quorate/flush"
	"quorate/order"
)

// shuffled is a list in another order, with some of it twice, and no longer than MaxNodes.
func shuffled(r *rand.Rand, all []api.Flush) []api.Flush {
	l := slices.Clone(all)
	for len(l) < api.MaxNodes && r.Intn(3) > 0 {
		l = append(l, all[r.Intn(len(all))])
	}
	r.Shuffle(len(l), func(i, j int) { l[i], l[j] = l[j], l[i] })
	return l
}

// TestOrderOfContents: F5.
func TestOrderOfContents(t *testing.T) {
	r := rand.New(rand.NewSource(4))
	for range 4000 {
		s := wildStory(r)
		all := s.contents(r, 1+r.Intn(5))
		if r.Intn(4) == 0 {
			spoil(r, &all[r.Intn(len(all))])
		}
		other := shuffled(r, all)
		cut, e := flush.Cut(all)
		if k, f := flush.Cut(other); k != cut || f != e {
			t.Fatalf("F5: Cut(%v) = %d, error %d; of the same in another order, %v, %d, error %d", all, cut, e, other, k, f)
		}
		done, own := wildDone(r, s), all[r.Intn(len(all))]
		lacks, e := flush.Lacks(done, own, all)
		if l, f := flush.Lacks(done, own, other); !slices.Equal(l, lacks) || f != e {
			t.Fatalf("F5: Lacks(%d, %v, %v) = %v, error %d; of the same in another order, %v, %v, error %d", done, own, all, lacks, e, other, l, f)
		}
		msgs := s.messages(r)
		rest, e := flush.Rest(done, all, msgs)
		if l, f := flush.Rest(done, other, msgs); !slices.EqualFunc(l, rest, sameMsg) || f != e {
			t.Fatalf("F5: Rest(%d, %v, ..) = %v, error %d; of the same in another order, %v, %v, error %d", done, all, rest, e, other, l, f)
		}
	}
}

func greatestBase(all []api.Flush) int {
	n := 0
	for _, f := range all {
		n = max(n, f.Base)
	}
	return n
}

// TestOwedOnce: F6. What a node lacks is owed to it by one of the others, and nothing else; with it the node has all that is left.
func TestOwedOnce(t *testing.T) {
	r := rand.New(rand.NewSource(5))
	owed, left := 0, 0
	for range 4000 {
		s := wildStory(r)
		count := 1 + r.Intn(5)
		if r.Intn(30) == 0 {
			count = api.MaxNodes
		}
		all := s.contents(r, count)
		who := r.Perm(api.MaxNodes)[:count]
		base := greatestBase(all)
		for i, q := range who {
			lacks, e := flush.Lacks(base, all[i], all)
			if e != api.OK {
				t.Fatalf("F6: Lacks(%d, %v, %v): error %d", base, all[i], all, e)
			}
			var got []api.Slot
			for _, p := range who {
				if p == q {
					continue
				}
				l, e := flush.Duty(p, q, who, all)
				if e != api.OK {
					t.Fatalf("F6: Duty(%d, %d, %v, %v): error %d", p, q, who, all, e)
				}
				got = append(got, l...)
			}
			if !slices.Equal(sorted(got), lacks) {
				t.Fatalf("F6: of %v, %v: node %d lacks %v, and is owed %v", who, all, q, lacks, got)
			}
			owed += len(got)
			left += wantAtHand(t, s, base, all, all[i], got)
		}
	}
	if owed < 2000 || left < 10000 {
		t.Errorf("the contents are too tame: %d owed, %d left", owed, left)
	}
}

// wantAtHand lets a node that has what its content says deliver the rest with what it got.
func wantAtHand(t *testing.T, s story, base int, all []api.Flush, own api.Flush, got []api.Slot) int {
	t.Helper()
	var msgs []api.Data
	for _, x := range s.slots {
		if has(own, x) || slices.Contains(got, x) {
			msgs = append(msgs, message(x.Sender, x.Seq, 0, "m"))
		}
	}
	l, e := flush.Rest(base, all, msgs)
	cut, _ := flush.Cut(all)
	if e != api.OK || len(l) != cut-base {
		t.Fatalf("F6: with %v Rest(%d, %v, ..) has %d messages, error %d, up to the cut %d", msgs, base, all, len(l), e, cut)
	}
	return len(l)
}

// TestFurther: F7. Who has come further has just that much less left.
func TestFurther(t *testing.T) {
	r := rand.New(rand.NewSource(6))
	whole := 0
	for range 4000 {
		s := wildStory(r)
		all, msgs := s.contents(r, 1+r.Intn(4)), s.messages(r)
		base := greatestBase(all)
		cut, e := flush.Cut(all)
		if e != api.OK || cut < base {
			t.Fatalf("F1: Cut(%v) = %d, error %d", all, cut, e)
		}
		for done := base; done <= cut; done++ {
			l, e := flush.Rest(done, all, msgs)
			if e != api.OK {
				continue
			}
			if len(l) != cut-done {
				t.Fatalf("F7: Rest(%d, %v, ..) has %d messages up to the cut %d", done, all, len(l), cut)
			}
			for d := done; d <= cut; d++ {
				wantRest(t, d, all, msgs, l[d-done:], api.OK)
			}
			whole += len(l)
		}
	}
	if whole < 10000 {
		t.Errorf("the contents are too tame: %d were left", whole)
	}
}

// one is a member of a view that ends.
type one struct {
	*order.Order
	pid  int
	made []api.Item // for the others
	came []int      // by member's place: how many of that one's items have come here
	log  []api.Msg  // what it has delivered
}

func ones(t *testing.T, r *rand.Rand) []*one {
	t.Helper()
	pids := r.Perm(5)[:1+r.Intn(4)]
	slices.Sort(pids)
	v := api.View{ID: viewID}
	for _, p := range pids {
		v.Members = append(v.Members, api.Member{Pid: p, Inc: 1, Cid: 1})
	}
	var l []*one
	window := 1 + r.Intn(4)
	for _, p := range pids {
		o, e := order.New(v, p, window)
		if e != api.OK {
			t.Fatalf("O1: New(%v, %d, %d): error %d", v, p, window, e)
		}
		l = append(l, &one{Order: o, pid: p, came: make([]int, len(pids))})
	}
	return l
}

// step lets one thing happen in the view.
func step(r *rand.Rand, l []*one) {
	i := r.Intn(len(l))
	from, o := l[i], l[r.Intn(len(l))]
	switch r.Intn(7) {
	case 0, 1:
		if d, e := o.Send(wildBody(r)); e == api.OK {
			o.made = append(o.made, api.Item{Kind: api.ItemData, Data: d})
		}
	case 2:
		l[0].made = append(l[0].made, l[0].Assign(1+r.Intn(3))...)
	case 3:
		o.log = append(o.log, o.Deliver(1+r.Intn(3))...)
	case 4:
		if o != from {
			o.Hear(from.pid, from.Told())
		}
	case 5, 6:
		for from != o && o.came[i] < len(from.made) && o.Place(from.pid, from.made[o.came[i]]) == api.OK && r.Intn(4) > 0 {
			o.came[i]++
		}
	}
}

// TestEndsAlike: members that break off their view wherever they are, and some of which go on together, end it alike (P4).
func TestEndsAlike(t *testing.T) {
	r := rand.New(rand.NewSource(7))
	behind, forwarded := 0, 0
	for range 1500 {
		l := ones(t, r)
		for range r.Intn(200) {
			step(r, l)
		}
		for _, o := range l {
			if r.Intn(2) == 0 {
				o.Freeze()
			}
		}
		for range r.Intn(60) {
			step(r, l)
		}
		r.Shuffle(len(l), func(i, j int) { l[i], l[j] = l[j], l[i] })
		a, b := ended(t, l[:1+r.Intn(len(l))])
		behind += a
		forwarded += b
	}
	if behind < 1000 || forwarded < 500 {
		t.Errorf("the views are too tame: %d left to deliver, %d forwarded", behind, forwarded)
	}
}

// ended lets those that go on together end the view, each with a store of its own; how much was left, how much forwarded.
func ended(t *testing.T, l []*one) (left, forwarded int) {
	t.Helper()
	var members []api.Member
	var who []int
	stores := map[int]*flush.Store{}
	for _, o := range l {
		members, who = append(members, api.Member{Pid: o.pid, Inc: 1}), append(who, o.pid)
		stores[o.pid] = made(t, 5)
		stores[o.pid].Begin(viewID)
	}
	for _, s := range stores {
		for _, o := range l {
			wantTake(t, s, o.pid, 1, o.Content(5), api.OK)
		}
	}
	for _, o := range l {
		all, e := stores[o.pid].Contents(viewID, members)
		if e != api.OK {
			t.Fatalf("F11: error %d", e)
		}
		for _, q := range who {
			if q != o.pid {
				forwarded += pass(t, o, stores[q], q, who, all)
			}
		}
	}
	for _, o := range l {
		all, _ := stores[o.pid].Contents(viewID, members)
		rest, e := flush.Rest(o.Done(), all, append(o.Messages(), stores[o.pid].Messages()...))
		if e != api.OK {
			t.Fatalf("F4: node %d has delivered %v; Rest of %v: error %d", o.pid, o.log, all, e)
		}
		left += len(rest)
		o.log = append(o.log, rest...)
		if !slices.EqualFunc(o.log, l[0].log, sameMsg) {
			t.Fatalf("P4: node %d ends the view with %v, node %d with %v", o.pid, o.log, l[0].pid, l[0].log)
		}
	}
	return left, forwarded
}

// pass hands to q's store what o owes to it.
func pass(t *testing.T, o *one, s *flush.Store, q int, who []int, all []api.Flush) int {
	t.Helper()
	owed, e := flush.Duty(o.pid, q, who, all)
	if e != api.OK {
		t.Fatalf("F3: Duty(%d, %d, %v, %v): error %d", o.pid, q, who, all, e)
	}
	var msgs []api.Data
	for _, d := range o.Messages() {
		if slices.Contains(owed, api.Slot{Sender: d.Sender, Seq: d.Seq}) {
			msgs = append(msgs, d)
		}
	}
	if len(msgs) != len(owed) {
		t.Fatalf("F3: node %d owes %v and has %v of it", o.pid, owed, msgs)
	}
	wantAdd(t, s, forward(msgs...), api.OK)
	return len(msgs)
}

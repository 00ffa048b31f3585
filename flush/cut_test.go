package flush_test

import (
	"bytes"
	"testing"

	"quorate/api"
)

// TestCut: from the greatest base on, as long as slot and message are known between them.
func TestCut(t *testing.T) {
	knows := content(3, slots(0, 1, 1, 1, 0, 2), 0, 0, 0) // the slots, no message
	has := content(3, nil, 2, 1, 0)                       // the messages, no slot
	wantCut(t, 3, api.OK, knows)
	wantCut(t, 3, api.OK, has)
	wantCut(t, 6, api.OK, knows, has)
	wantCut(t, 6, api.OK, has, knows)
	wantCut(t, 4, api.OK, knows, content(1, nil, 9, 0, 0)) // 0.2 is there too, but 1.1 stands ahead of it
	wantCut(t, 3, api.OK, knows, content(1, nil, 0, 9, 9))
	wantCut(t, 5, api.OK, knows, content(0, nil, 0, 1, 0), content(2, nil, 1, 0, 0))
	wantCut(t, 5, api.OK, content(3, slots(0, 1), 1, 0, 0), content(3, slots(0, 1, 1, 1), 0, 1, 0))
	wantCut(t, 5, api.OK, knows, content(5, nil, 0, 0, 0)) // up to a base all have delivered, whoever has it now
	wantCut(t, 6, api.OK, knows, content(5, nil, 2, 0, 0))
	wantCut(t, 7, api.OK, knows, has, content(7, nil, 0, 0, 0))
	wantCut(t, 8, api.OK, has, knows, content(7, slots(0, 3), 3, 0, 0))
	wantCut(t, 9, api.OK, knows, content(7, slots(1, 3, 2, 4), 0, 3, 0), content(0, nil, 0, 0, 4), has)
	wantCut(t, api.MaxCount, api.OK, knows, content(api.MaxCount-1, slots(2, api.MaxCount), 0, 0, api.MaxCount))
	wantCut(t, api.MaxCount-1, api.OK, knows, content(api.MaxCount-1, slots(2, api.MaxCount), 0, 0, api.MaxCount-1))
}

// TestLacks: what the own content has counts, where the node is counts, and the own content is one of them.
func TestLacks(t *testing.T) {
	one := content(3, slots(1, 1, 0, 1, 2, 1, 1, 2), 1, 2, 0)
	two := content(2, slots(0, 9), 0, 1, 1)
	all := []api.Flush{one, two}
	wantCut(t, 7, api.OK, all...)
	wantLacks(t, 3, two, all, slots(0, 1, 1, 2), api.OK)
	wantLacks(t, 4, two, all, slots(0, 1, 1, 2), api.OK)
	wantLacks(t, 5, two, all, slots(1, 2), api.OK)
	wantLacks(t, 6, two, all, slots(1, 2), api.OK)
	wantLacks(t, 7, two, all, nil, api.OK)
	wantLacks(t, 8, two, all, nil, api.OK)
	wantLacks(t, api.MaxCount, two, all, nil, api.OK)
	wantLacks(t, 2, two, all, nil, api.ErrFork)
	wantLacks(t, 0, two, all, nil, api.ErrFork)
	wantLacks(t, 3, one, all, slots(2, 1), api.OK)
	wantLacks(t, 5, one, all, slots(2, 1), api.OK)
	wantLacks(t, 6, one, all, nil, api.OK)

	// not among all: it may bring slots, messages, and the base
	wantLacks(t, 3, two, []api.Flush{one}, slots(0, 1, 1, 2), api.OK)
	wantLacks(t, 3, one, []api.Flush{two}, slots(2, 1), api.OK)
	wantLacks(t, 3, content(0, nil, 0, 0, 1), []api.Flush{one}, slots(0, 1, 1, 1, 1, 2), api.OK)
	wantLacks(t, 3, content(0, nil, 0, 0, 0), []api.Flush{one}, slots(0, 1, 1, 1), api.OK)
	wantLacks(t, 4, content(5, nil, 0, 0, 0), all, nil, api.ErrFork)
	wantLacks(t, 5, content(5, nil, 0, 0, 0), all, slots(1, 2, 2, 1), api.OK)
	for _, n := range far() {
		wantLacks(t, n, two, all, nil, api.ErrArg)
		other := changed(func(f *api.Flush) { f.Prev.Inc++ })
		wantLacks(t, n, two, []api.Flush{one, other}, nil, api.ErrArg)
	}
}

// TestDuty: the lowest of those that have a message owes it to one who has it not.
func TestDuty(t *testing.T) {
	knows := content(3, slots(1, 1, 0, 1, 2, 1, 1, 2), 0, 0, 0)
	first, second, third := content(3, nil, 1, 1, 0), content(0, nil, 9, 0, 1), content(3, nil, 0, 9, 9)
	all := []api.Flush{third, knows, first, second}
	who := []int{12, 15, 0, 7}
	wantDuty(t, 0, 15, who, all, slots(0, 1, 1, 1), api.OK)
	wantDuty(t, 7, 15, who, all, slots(2, 1), api.OK)
	wantDuty(t, 12, 15, who, all, slots(1, 2), api.OK)
	wantDuty(t, 15, 0, who, all, nil, api.OK)
	wantDuty(t, 0, 7, who, all, slots(1, 1), api.OK)
	wantDuty(t, 12, 7, who, all, slots(1, 2), api.OK)
	wantDuty(t, 0, 12, who, all, slots(0, 1), api.OK)
	wantDuty(t, 7, 12, who, all, nil, api.OK)
	wantDuty(t, 7, 0, who, all, slots(2, 1), api.OK)
	wantDuty(t, 12, 0, who, all, slots(1, 2), api.OK)

	// other numbers for the same contents: another one is the lowest
	who = []int{0, 1, 2, 3}
	wantDuty(t, 0, 1, who, all, slots(1, 1, 1, 2, 2, 1), api.OK)
	wantDuty(t, 2, 1, who, all, slots(0, 1), api.OK)
	wantDuty(t, 3, 1, who, all, nil, api.OK)

	// neither up to the base nor beyond the cut
	further := []api.Flush{content(4, nil, 9, 9, 0), knows}
	wantCut(t, 5, api.OK, further...)
	wantDuty(t, 0, 1, []int{0, 1}, further, slots(0, 1), api.OK)
}

// TestDutyRefuses: who must name each content's node, self and q among them, and comes ahead of the contents.
func TestDutyRefuses(t *testing.T) {
	a, b, c := contents()
	all := []api.Flush{a, b, c}
	fork := []api.Flush{a, content(3, slots(0, 3), 3, 0, 0), c}
	apart := []api.Flush{a, content(2, nil, 3, 0), c}
	refuses := func(self, q int, who ...int) {
		t.Helper()
		wantDuty(t, self, q, who, all, nil, api.ErrArg)
		wantDuty(t, self, q, who, fork, nil, api.ErrArg)
		wantDuty(t, self, q, who, apart, nil, api.ErrArg)
	}
	refuses(0, 2)
	refuses(0, 2, 0, 2)
	refuses(0, 2, 0, 1, 2, 3)
	refuses(0, 2, 0, 2, 2)
	refuses(0, 2, 0, 0, 2)
	refuses(0, 2, 0, 2, 0)
	refuses(0, 1, 0, 2, 3)
	refuses(1, 0, 0, 2, 3)
	refuses(0, 0, 0, 1, 2)
	refuses(1, 1, 0, 1, 2)
	for _, n := range append(far(), api.MaxNodes) {
		refuses(0, 2, 0, n, 2)
		refuses(0, 2, n, 0, 2)
		refuses(0, 2, 0, 2, n)
		refuses(n, 2, n, 1, 2)
		refuses(0, n, 0, 1, n)
		refuses(n, 2, 0, 1, 2)
		refuses(0, n, 0, 1, 2)
		refuses(n, n, 0, 1, 2)
	}
	wantDuty(t, 0, 2, []int{0, 1, 2}, fork, nil, api.ErrFork)
	wantDuty(t, 0, 2, []int{0, 1, 2}, apart, nil, api.ErrPrev)
	wantDuty(t, 0, 15, []int{0, 1, 15}, all, slots(1, 1), api.OK)
	wantDuty(t, 0, 1, nil, nil, nil, api.ErrArg)
	wantDuty(t, 0, 1, []int{0, 1}, nil, nil, api.ErrArg)
	wantDuty(t, 0, 1, nil, all, nil, api.ErrArg)
}

func msg(pos, sender, seq int, body string) api.Msg {
	return api.Msg{Pos: pos, Sender: sender, Seq: seq, Body: []byte(body)}
}

// TestRest: by position, each with the body of the first message that is it.
func TestRest(t *testing.T) {
	f := content(3, slots(1, 1, 0, 1, 2, 1, 1, 2), 1, 1, 1)
	long := string(bytes.Repeat([]byte("l"), api.MaxChunk+1))
	msgs := []api.Data{
		message(-1, 0, -1, "no such node"), message(2, 1, 99, "c"), message(0, 2, 0, "not asked for"), message(1, 3, 0, ""),
		message(2, 1, 0, "later"), message(0, 1, 7, ""), message(0, 1, 7, "later"), message(1, 1, -1, long), message(1, 1, 0, "later"),
	}
	want := []api.Msg{msg(4, 1, 1, long), msg(5, 0, 1, ""), msg(6, 2, 1, "c")}
	all := []api.Flush{f, f}
	for k := range 4 {
		wantRest(t, 3+k, all, msgs, want[k:], api.OK)
	}
	wantRest(t, 7, all, msgs, nil, api.OK)
	wantRest(t, api.MaxCount, all, msgs, nil, api.OK)
	wantRest(t, 2, all, msgs, nil, api.ErrFork)
	wantRest(t, 0, all, msgs, nil, api.ErrFork)
	for _, n := range far() {
		wantRest(t, n, all, msgs, nil, api.ErrArg)
		wantRest(t, n, []api.Flush{f, content(3, nil, 1, 1)}, msgs, nil, api.ErrArg)
	}
	// each of them is needed, from where the node is on
	for k, m := range want {
		var others []api.Data
		for _, d := range msgs {
			if d.Sender != m.Sender || d.Seq != m.Seq {
				others = append(others, d)
			}
		}
		wantRest(t, m.Pos-1, all, others, nil, api.ErrMissing)
		wantRest(t, 3, all, others, nil, api.ErrMissing)
		wantRest(t, m.Pos, all, others, want[k+1:], api.OK)
	}
	// the contents' errors, and how far the node is, come ahead of what is missing
	wantRest(t, 2, all, nil, nil, api.ErrFork)
	wantRest(t, 3, append(all, content(3, slots(0, 7), 1, 1, 1)), nil, nil, api.ErrFork)
	last := content(api.MaxCount-1, slots(0, 1), 1, 1, 1)
	wantRest(t, api.MaxCount-1, []api.Flush{last}, []api.Data{message(0, 1, 0, "z")}, []api.Msg{msg(api.MaxCount, 0, 1, "z")}, api.OK)
}

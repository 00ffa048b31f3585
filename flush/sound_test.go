package flush_test

import (
	"testing"

	"quorate/api"
)

// whole is a sound content of three nodes, for tests to change in one thing.
func whole() api.Flush { return content(2, slots(0, 3, 1, 1, 2, 9), 3, 1, 0) }

// many are so many slots, no two the same.
func many(n int) []api.Slot {
	var l []api.Slot
	for k := range n {
		l = append(l, api.Slot{Sender: k % 3, Seq: 1 + k/3})
	}
	return l
}

// changed is a sound content with one change.
func changed(change func(f *api.Flush)) api.Flush {
	f := whole()
	change(&f)
	return f
}

// badIDs are IDs with one number that no view has.
func badIDs() []api.ViewID {
	l := []api.ViewID{{}}
	change := func(change func(id *api.ViewID)) {
		id := viewID
		change(&id)
		l = append(l, id)
	}
	for _, n := range append(far(), 0) {
		change(func(id *api.ViewID) { id.Epoch = n })
		change(func(id *api.ViewID) { id.Inc = n })
		change(func(id *api.ViewID) { id.Cid = n })
	}
	for _, n := range append(far(), api.MaxNodes) {
		change(func(id *api.ViewID) { id.Lead = n })
	}
	return l
}

// unsound are contents that are not sound, each for one reason.
func unsound() []api.Flush {
	var l []api.Flush
	add := func(change func(f *api.Flush)) { l = append(l, changed(change)) }
	for _, id := range badIDs() {
		add(func(f *api.Flush) { f.Prev = id })
	}
	for _, n := range far() {
		add(func(f *api.Flush) { f.Base = n })
		add(func(f *api.Flush) { f.Have[0] = n })
		add(func(f *api.Flush) { f.Have[2] = n })
		add(func(f *api.Flush) { f.Slots[0].Sender = n })
		add(func(f *api.Flush) { f.Slots[2].Seq = n })
	}
	add(func(f *api.Flush) { f.Have, f.Slots = nil, nil })
	add(func(f *api.Flush) { f.Have = nil })
	add(func(f *api.Flush) { f.Have = make([]int, api.MaxNodes+1) })
	add(func(f *api.Flush) { f.Slots = many(api.MaxHeld + 1) })
	add(func(f *api.Flush) { f.Base = api.MaxCount - 2 })
	add(func(f *api.Flush) { f.Base, f.Slots = api.MaxCount, f.Slots[:1] })
	add(func(f *api.Flush) { f.Slots[1].Sender = 3 })
	add(func(f *api.Flush) { f.Slots[1].Seq = 0 })
	add(func(f *api.Flush) { f.Slots[1] = f.Slots[0] })
	add(func(f *api.Flush) { f.Slots[2] = f.Slots[0] })
	return l
}

// sound are contents at the edges of what is sound, each with its cut.
func sound() ([]api.Flush, []int) {
	var l []api.Flush
	var cuts []int
	add := func(cut int, change func(f *api.Flush)) {
		l, cuts = append(l, changed(change)), append(cuts, cut)
	}
	for _, n := range []int{1, api.MaxCount} {
		add(4, func(f *api.Flush) { f.Prev.Epoch = n })
		add(4, func(f *api.Flush) { f.Prev.Inc = n })
		add(4, func(f *api.Flush) { f.Prev.Cid = n })
	}
	add(4, func(f *api.Flush) { f.Prev.Lead = api.MaxNodes - 1 })
	add(2, func(f *api.Flush) { f.Have = []int{0, 0, 0} })
	add(5, func(f *api.Flush) { f.Have = []int{api.MaxCount, api.MaxCount, api.MaxCount} })
	add(4, func(f *api.Flush) { f.Have = append(f.Have, make([]int, api.MaxNodes-3)...) })
	add(0, func(f *api.Flush) { f.Base, f.Slots, f.Have = 0, nil, []int{0} })
	add(3, func(f *api.Flush) { f.Slots, f.Have = slots(0, 1), []int{1} })
	add(3, func(f *api.Flush) { f.Slots, f.Have = slots(0, api.MaxCount), []int{api.MaxCount} })
	add(2, func(f *api.Flush) { f.Slots, f.Have = slots(0, api.MaxCount), []int{api.MaxCount - 1} })
	add(2, func(f *api.Flush) { f.Slots, f.Have = slots(2, 1), []int{1, 1, 0} })
	add(2, func(f *api.Flush) { f.Slots = []api.Slot{} })
	add(api.MaxCount, func(f *api.Flush) { f.Base, f.Slots = api.MaxCount, nil })
	add(api.MaxCount-1, func(f *api.Flush) { f.Base = api.MaxCount - 3 })
	add(api.MaxCount, func(f *api.Flush) { f.Base, f.Slots = api.MaxCount-1, f.Slots[:1] })
	add(2+api.MaxHeld, func(f *api.Flush) { f.Slots, f.Have = many(api.MaxHeld), []int{99, 99, 99} })
	add(api.MaxCount, func(f *api.Flush) {
		f.Base, f.Slots, f.Have = api.MaxCount-api.MaxHeld, many(api.MaxHeld), []int{99, 99, 99}
	})
	return l, cuts
}

// TestUnsound: a content that is not sound is refused wherever it stands, ahead of all else.
func TestUnsound(t *testing.T) {
	other, fork := whole(), whole()
	other.Prev.Cid++
	fork.Base++
	for _, f := range unsound() {
		wantAll(t, api.ErrArg, f)
		wantAll(t, api.ErrArg, f, f)
		wantAll(t, api.ErrArg, f, whole(), whole())
		wantAll(t, api.ErrArg, whole(), f, whole())
		wantAll(t, api.ErrArg, whole(), whole(), f)
		wantAll(t, api.ErrArg, whole(), other, f)
		wantAll(t, api.ErrArg, whole(), fork, f)
		wantLacks(t, 9, f, []api.Flush{whole()}, nil, api.ErrArg)
		wantLacks(t, 9, whole(), []api.Flush{f}, nil, api.ErrArg)
		wantLacks(t, 0, f, []api.Flush{whole(), other}, nil, api.ErrArg)
		wantUnchangedTake(t, f)
	}
}

// TestSound: at its edges a content is sound.
func TestSound(t *testing.T) {
	l, cuts := sound()
	for k, f := range l {
		wantCut(t, cuts[k], api.OK, f)
		wantCut(t, cuts[k], api.OK, f, f, f)
		wantLacks(t, api.MaxCount, f, []api.Flush{f}, nil, api.OK)
		wantDuty(t, 0, 1, []int{0, 1}, []api.Flush{f, f}, nil, api.OK)
		wantRest(t, api.MaxCount, []api.Flush{f}, nil, nil, api.OK)
		s := made(t, len(f.Have))
		wantTake(t, s, 0, 1, f, api.OK)
		wantContents(t, s, f.Prev, []api.Member{member(0, 1)}, f)
	}
}

// TestApart: contents of different views, or of groups of different sizes.
func TestApart(t *testing.T) {
	apart := []api.Flush{
		changed(func(f *api.Flush) { f.Prev.Epoch++ }),
		changed(func(f *api.Flush) { f.Prev.Lead++ }),
		changed(func(f *api.Flush) { f.Prev.Inc++ }),
		changed(func(f *api.Flush) { f.Prev.Cid++ }),
		changed(func(f *api.Flush) { f.Have = append(f.Have, 0) }),
	}
	fork := changed(func(f *api.Flush) { f.Base++ })
	for _, f := range apart {
		wantAll(t, api.ErrPrev, f, whole())
		wantAll(t, api.ErrPrev, whole(), f)
		wantAll(t, api.ErrPrev, whole(), f, whole())
		wantAll(t, api.ErrPrev, whole(), whole(), f)
		wantAll(t, api.ErrPrev, whole(), fork, f)
		wantAll(t, api.ErrPrev, f, whole(), fork)
		wantLacks(t, 9, f, []api.Flush{whole(), whole()}, nil, api.ErrPrev)
		wantLacks(t, 0, f, []api.Flush{whole(), fork}, nil, api.ErrPrev)
		wantLacks(t, 0, whole(), []api.Flush{f}, nil, api.ErrPrev)
		wantRest(t, 0, []api.Flush{whole(), f}, nil, nil, api.ErrPrev)
	}
}

// TestFork: contents that contradict one another, behind the base or not.
func TestFork(t *testing.T) {
	fork := []api.Flush{
		content(2, slots(0, 4), 3, 1, 0),                      // another slot at position 3
		content(4, slots(2, 8), 3, 1, 0),                      // another one at position 5
		content(1, slots(1, 7, 0, 3, 1, 2), 3, 1, 0),          // another one at position 4
		content(0, slots(0, 3), 3, 1, 0),                      // 0.3 at position 1
		content(5, slots(2, 9), 3, 1, 0),                      // 2.9 at position 6
		content(api.MaxCount-1, slots(1, 1), 3, 1, 0),         // 1.1 at the last position
		content(9, slots(2, 20, 2, 21, 0, 3, 2, 22), 0, 0, 0), // 0.3 in the midst
	}
	after := content(40, slots(2, 90), 5, 5, 5)
	for _, f := range fork {
		wantAll(t, api.ErrFork, whole(), f)
		wantAll(t, api.ErrFork, f, whole())
		wantAll(t, api.ErrFork, after, f, whole())
		wantAll(t, api.ErrFork, whole(), after, f)
		wantLacks(t, api.MaxCount, f, []api.Flush{whole()}, nil, api.ErrFork)
		wantLacks(t, api.MaxCount, whole(), []api.Flush{whole(), f}, nil, api.ErrFork)
	}
	wantCut(t, 4, api.OK, whole(), content(3, slots(1, 1, 2, 9, 0, 4), 3, 1, 0))
	wantCut(t, 4, api.OK, whole(), content(0, slots(0, 1, 0, 2, 0, 3), 3, 1, 0))
	wantCut(t, 4, api.OK, whole(), content(0, slots(0, 1, 0, 2), 3, 1, 0))
	wantCut(t, 5, api.OK, whole(), content(5, slots(0, 4), 3, 1, 0))
}

// TestHowMany: of 1 to MaxNodes contents there is a cut.
func TestHowMany(t *testing.T) {
	wantAll(t, api.ErrArg)
	wantLacks(t, 9, whole(), nil, nil, api.ErrArg)
	var all []api.Flush
	for range api.MaxNodes {
		all = append(all, whole())
		wantCut(t, 4, api.OK, all...)
		wantLacks(t, 2, whole(), all, nil, api.OK)
		wantRest(t, 4, all, nil, nil, api.OK)
	}
	wantDuty(t, 0, 15, upTo(16), all, nil, api.OK)
	all = append(all, whole())
	wantCut(t, 0, api.ErrArg, all...)
	wantLacks(t, 9, whole(), all, nil, api.ErrArg)
	wantRest(t, 9, all, nil, nil, api.ErrArg)
	wantDuty(t, 0, 15, upTo(17), all, nil, api.ErrArg)
	wantDuty(t, 0, 15, upTo(16), all, nil, api.ErrArg)
}

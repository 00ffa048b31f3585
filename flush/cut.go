package flush

import (
	"slices"

	"quorate/api"
)

// ending is where contents let their view end.
type ending struct {
	base  int
	slots []api.Slot // of the positions behind the base, up to the cut
}

// cut is the last position that is delivered.
func (e ending) cut() int { return e.base + len(e.slots) }

// behind is what is left for one who has delivered up to done, which is not below the base.
func (e ending) behind(done int) []api.Slot {
	return e.slots[min(done-e.base, len(e.slots)):]
}

// join reckons the ending from what contents tell between them.
func join(contents ...api.Flush) (ending, api.Errno) {
	for _, f := range contents {
		if !isSound(f) {
			return ending{}, api.ErrArg
		}
	}
	base := 0
	for _, f := range contents {
		if f.Prev != contents[0].Prev || len(f.Have) != len(contents[0].Have) {
			return ending{}, api.ErrPrev
		}
		base = max(base, f.Base)
	}
	known, agree := placed(contents)
	if !agree {
		return ending{}, api.ErrFork
	}
	end, isHeld := ending{base: base}, holder(contents...)
	for {
		s, told := known[end.cut()+1]
		if !told || !isHeld(s) {
			return end, api.OK
		}
		end.slots = append(end.slots, s)
	}
}

// placed tells what stands at which position, and whether the contents do not contradict one another.
func placed(contents []api.Flush) (map[int]api.Slot, bool) {
	slots, positions := map[int]api.Slot{}, map[api.Slot]int{}
	for _, f := range contents {
		for i, s := range f.Slots {
			pos := f.Base + 1 + i
			other, known := slots[pos]
			elsewhere, named := positions[s]
			if known && other != s || named && elsewhere != pos {
				return nil, false
			}
			slots[pos], positions[s] = s, pos
		}
	}
	return slots, true
}

// holder gives what tells of a message whether one of the contents' nodes has it.
func holder(contents ...api.Flush) func(api.Slot) bool {
	return func(s api.Slot) bool {
		return slices.ContainsFunc(contents, func(f api.Flush) bool { return s.Seq <= f.Have[s.Sender] })
	}
}

// picked are those of the slots that are asked for, by rising sender and number.
func picked(l []api.Slot, isAsked func(api.Slot) bool) []api.Slot {
	var list []api.Slot
	for _, s := range l {
		if isAsked(s) {
			list = append(list, s)
		}
	}
	slices.SortFunc(list, compare)
	return list
}

// Cut is the position up to which all of them deliver.
func Cut(all []api.Flush) (int, api.Errno) {
	if !within(len(all), 1, api.MaxNodes) {
		return 0, api.ErrArg
	}
	end, e := join(all...)
	return end.cut(), e
}

// Lacks lists the messages up to the cut and behind done that the holder of own does not have.
func Lacks(done int, own api.Flush, all []api.Flush) ([]api.Slot, api.Errno) {
	if !within(done, 0, api.MaxCount) || !within(len(all), 1, api.MaxNodes) {
		return nil, api.ErrArg
	}
	end, e := join(append(slices.Clip(all), own)...)
	if e != api.OK {
		return nil, e
	}
	if done < end.base {
		return nil, api.ErrFork
	}
	isHeld := holder(own)
	return picked(end.behind(done), func(s api.Slot) bool { return !isHeld(s) }), api.OK
}

// Duty lists the messages that the node self is to forward to the node q: who lists the nodes, all their contents.
func Duty(self, q int, who []int, all []api.Flush) ([]api.Slot, api.Errno) {
	mine, its := slices.Index(who, self), slices.Index(who, q)
	if len(who) != len(all) || !areNodes(who) || mine < 0 || its < 0 || self == q {
		return nil, api.ErrArg
	}
	end, e := join(all...)
	if e != api.OK {
		return nil, e
	}
	var lower []api.Flush
	for i, p := range who {
		if p < self {
			lower = append(lower, all[i])
		}
	}
	hasSelf, hasIt, hasLower := holder(all[mine]), holder(all[its]), holder(lower...)
	return picked(end.slots, func(s api.Slot) bool { return hasSelf(s) && !hasIt(s) && !hasLower(s) }), api.OK
}

// areNodes tells whether all of a list are nodes' numbers, and no two of them the same.
func areNodes(l []int) bool {
	var count [api.MaxNodes]int
	for _, p := range l {
		if !within(p, 0, api.MaxNodes-1) || count[p] > 0 {
			return false
		}
		count[p]++
	}
	return true
}

// Rest lists what is left to deliver behind done, out of the messages at hand.
func Rest(done int, all []api.Flush, msgs []api.Data) ([]api.Msg, api.Errno) {
	if !within(done, 0, api.MaxCount) || !within(len(all), 1, api.MaxNodes) {
		return nil, api.ErrArg
	}
	end, e := join(all...)
	if e != api.OK {
		return nil, e
	}
	if done < end.base {
		return nil, api.ErrFork
	}
	at := firstPlaces(msgs)
	var list []api.Msg
	for i, s := range end.behind(done) {
		k, there := at[s]
		if !there {
			return nil, api.ErrMissing
		}
		list = append(list, api.Msg{Pos: done + 1 + i, Sender: s.Sender, Seq: s.Seq, Body: copied(msgs[k].Body)})
	}
	return list, api.OK
}

// firstPlaces tells by slot where its message stands in a list, for the first time.
func firstPlaces(msgs []api.Data) map[api.Slot]int {
	at := map[api.Slot]int{}
	for k, d := range msgs {
		if _, there := at[slotOf(d)]; !there {
			at[slotOf(d)] = k
		}
	}
	return at
}

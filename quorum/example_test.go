package quorum_test

import (
	"testing"

	"quorate/api"
)

// TestExampleVotes: section 11.4, 1 to 5.
func TestExampleVotes(t *testing.T) {
	for _, c := range []struct {
		votes          []int
		minimal        [][]int
		winning, bears int
	}{
		{[]int{1, 1, 1}, [][]int{{0, 1}, {0, 2}, {1, 2}}, 4, 1},                    // 1
		{[]int{1, 1, 1, 1}, [][]int{{0, 1}, {0, 2}, {0, 3}, {1, 2, 3}}, 8, 1},      // 2
		{[]int{3, 1, 1}, [][]int{{0}}, 4, 0}, {[]int{0, 2, 2}, [][]int{{1}}, 4, 0}, // 3
		{[]int{0, 0, 5, 0}, [][]int{{2}}, 8, 0},                                                       // 4
		{[]int{2, 1, 1}, [][]int{{0}}, 4, 0}, {[]int{1, 2, 1}, [][]int{{0, 1}, {0, 2}, {1, 2}}, 4, 1}, // 5
	} {
		wantMinimal(t, c.votes, c.minimal...)
		wantWinning(t, c.votes, c.winning)
		wantTolerance(t, c.votes, c.bears)
	}
	for _, votes := range [][]int{{0, 0}, {}, {1, -1}, {10}, same(17, 1)} { // 4
		wantNoVotes(t, votes)
	}
}

// TestExampleSets: the sets of 1 to 3 and 5, and 6.
func TestExampleSets(t *testing.T) {
	three, four := []int{1, 1, 1}, []int{1, 1, 1, 1}
	for _, set := range [][]int{{0, 1}, {0, 2}, {1, 2}, {0, 1, 2}} { // 1
		wantQuorate(t, three, set, true, api.OK)
	}
	for _, set := range [][]int{nil, {}, {0}, {1}, {2}} {
		wantQuorate(t, three, set, false, api.OK)
	}
	wantQuorate(t, four, []int{0, 1}, true, api.OK) // 2
	wantQuorate(t, four, []int{2, 3}, false, api.OK)
	wantQuorate(t, four, []int{1, 2, 3}, true, api.OK)
	for _, set := range [][]int{{1}, {0, 1}, {1, 2}, {0, 1, 2}} { // 3
		wantQuorate(t, []int{0, 2, 2}, set, true, api.OK)
	}
	wantQuorate(t, []int{0, 2, 2}, []int{0, 2}, false, api.OK)
	wantQuorate(t, []int{2, 1, 1}, []int{0}, true, api.OK) // 5
	wantQuorate(t, []int{2, 1, 1}, []int{1, 2}, false, api.OK)
	wantQuorate(t, []int{1, 2, 1}, []int{1}, false, api.OK)
	wantQuorate(t, []int{1, 2, 1}, []int{0, 2}, true, api.OK)

	wantQuorate(t, three, []int{1, 0}, false, api.ErrArg) // 6
	wantQuorate(t, three, []int{0, 0}, false, api.ErrArg)
	wantQuorate(t, three, []int{0, 3}, false, api.ErrArg)
	wantQuorate(t, []int{0, 0}, []int{1, 0}, false, api.ErrVotes)
}

// TestExampleBest: 7.
func TestExampleBest(t *testing.T) {
	wantBest(t, []api.Standing{{Pid: 2, Epoch: 4, Length: 9}, {Pid: 0, Epoch: 5, Length: 1}, {Pid: 1, Epoch: 5, Length: 1}}, 1, api.OK)
	wantBest(t, []api.Standing{{Pid: 3}}, 0, api.OK)
	wantBest(t, []api.Standing{{Pid: 1}, {Pid: 1}}, 0, api.ErrArg)
	wantBest(t, []api.Standing{{Pid: 1, Epoch: 3}, {Pid: 1, Length: 4}}, 0, api.ErrArg)
}

// TestExampleWatch: 8.
func TestExampleWatch(t *testing.T) {
	w := made(t, 1, 1, 1)
	wantEntered(t, w, view(1, api.Member{Pid: 2, Inc: 1, Cid: 1}), false)
	wantTold(t, w, told{entered: 1})
	wantEntered(t, w, view(2, api.Member{Pid: 0, Inc: 1, Cid: 3}, api.Member{Pid: 2, Inc: 1, Cid: 2}), true)
	now := told{in: true, last: api.ViewID{Epoch: 2, Lead: 0, Inc: 1, Cid: 3}, entered: 2, quorates: 1}
	wantTold(t, w, now)
	wantRefused(t, w, view(2, api.Member{Pid: 0, Inc: 1, Cid: 4}, api.Member{Pid: 1, Inc: 1, Cid: 2}), api.ErrOrder)
	wantRefused(t, w, api.View{ID: api.ViewID{Epoch: 3, Lead: 0, Inc: 1, Cid: 4}, Members: []api.Member{{Pid: 1, Inc: 1, Cid: 4}}}, api.ErrView)
	wantTold(t, w, now)
}

// TestReadme: what README.md shows.
func TestReadme(t *testing.T) {
	votes := []int{2, 1, 1, 0}
	wantQuorate(t, votes, []int{0, 3}, true, api.OK)
	wantQuorate(t, votes, []int{1, 2, 3}, false, api.OK)
	wantMinimal(t, votes, []int{0})
	wantTolerance(t, votes, 0)
	wantWinning(t, votes, 8)
	wantTolerance(t, []int{1, 1, 1, 1, 1}, 2)
	wantBest(t, []api.Standing{{Pid: 0, Epoch: 4, Length: 9}, {Pid: 1, Epoch: 5, Length: 2}, {Pid: 2, Epoch: 5, Length: 3}}, 2, api.OK)

	w := made(t, votes...)
	v := view(1, api.Member{Pid: 0, Inc: 1, Cid: 1})
	wantEntered(t, w, v, true)
	wantEntered(t, w, view(2, api.Member{Pid: 1, Inc: 1, Cid: 2}, api.Member{Pid: 2, Inc: 1, Cid: 2}), false)
	wantTold(t, w, told{in: false, last: v.ID, entered: 2, quorates: 1})
}

package detect_test

import (
	"math"
	"slices"
	"testing"

	"quorate/api"
	"quorate/detect"
)

// TestTickSuspects: D2, for each timeout: still heard behind as many ticks, suspected with the next one.
func TestTickSuspects(t *testing.T) {
	for base := 1; base <= api.MaxCap; base++ {
		d := made(t, 3, 1, 5, base, 1, api.MaxCap)
		hear(t, d, 2, 4, 0, 0, 5, 4)
		for k := range base {
			d.Tick()
			wantBeat(t, d, k+1, 0, 5, 4)
			wantEstimate(t, d, 0, 5, 4)
			wantSuspects(t, d)
		}
		d.Tick()
		wantBeat(t, d, base+1, 0, 5, 0)
		wantEstimate(t, d, 0, 5, 0)
		wantSuspects(t, d, 2)
		ticks(d, 2*api.MaxCap)
		wantSuspects(t, d, 2)
		wantNumbers(t, d, 2, 4, base, 0)
		wantNumbers(t, d, 0, 0, base, 0)
	}
}

// TestAgesApart: each node's age counts from its own last beat.
func TestAgesApart(t *testing.T) {
	d := made(t, 4, 0, 1, 3, 1, 9)
	hear(t, d, 1, 1, 1, 0, 0, 0, 0)
	d.Tick()
	hear(t, d, 2, 1, 1, 0, 0, 0, 0)
	d.Tick()
	hear(t, d, 3, 1, 1, 0, 0, 0, 0)
	hear(t, d, 1, 1, 2, 0, 0, 0, 0)
	ticks(d, 2)
	wantHears(t, d, 1, 1, 1, 1)
	d.Tick()
	wantHears(t, d, 1, 1, 0, 1)
	wantSuspects(t, d, 2)
	d.Tick()
	wantHears(t, d, 1, 0, 0, 0)
	wantSuspects(t, d, 1, 2, 3)
}

// badBeats are beats that can come from no one of five nodes, by one thing each.
func badBeats() []api.Beat {
	good := []int{1, 2, 3, 4, 5}
	list := []api.Beat{{Tick: 30}, {Tick: 30, Hears: []int{}}}
	for _, tick := range []int{-1, api.MaxCount + 1, math.MinInt, math.MaxInt} {
		list = append(list, api.Beat{Tick: tick, Hears: good})
	}
	for n := range 12 {
		if n != len(good) {
			list = append(list, api.Beat{Tick: 30, Hears: make([]int, n)})
		}
	}
	for k := range good {
		for _, inc := range []int{-1, api.MaxCount + 1, math.MinInt, math.MaxInt} {
			hears := slices.Clone(good)
			hears[k] = inc
			list = append(list, api.Beat{Tick: 30, Hears: hears})
		}
	}
	return list
}

// wantRefused hands over what must be refused with one and the same error.
func wantRefused(t *testing.T, d *detect.Detector, q, inc int, b api.Beat, want api.Errno) {
	t.Helper()
	if e := d.Heard(q, inc, b); e != want {
		t.Errorf("D4: Heard(%d, %d, %v): error %d, want %d", q, inc, b, e, want)
	}
}

// TestArgumentsFirst: D4, 1: whatever else is true of the beat.
func TestArgumentsFirst(t *testing.T) {
	good := api.Beat{Tick: 30, Hears: []int{0, 0, 7, 0, 0}}
	stale := api.Beat{Tick: 0, Hears: []int{0, 0, 7, 0, 0}}
	wantUnchanged(t, "D4: ErrArg", func(d *detect.Detector) {
		for _, q := range append(far(), 2, 5, 6) {
			for _, inc := range []int{1, 7, 8, 0, api.MaxCount} {
				wantRefused(t, d, q, inc, good, api.ErrArg)
				wantRefused(t, d, q, inc, stale, api.ErrArg)
			}
		}
		for _, q := range []int{0, 1, 3, 4} {
			for _, inc := range []int{0, -1, api.MaxCount + 1, math.MinInt, math.MaxInt} {
				wantRefused(t, d, q, inc, good, api.ErrArg)
				wantRefused(t, d, q, inc, stale, api.ErrArg)
			}
			for _, b := range badBeats() {
				for _, inc := range []int{1, 2, 4, 5, 6, api.MaxCount} {
					wantRefused(t, d, q, inc, b, api.ErrArg)
				}
			}
		}
	})
}

// TestOldAheadOfStale: D4, 2 and 3: the incarnation is looked at ahead of the tick.
func TestOldAheadOfStale(t *testing.T) {
	hears := []int{1, 1, 7, 1, 1}
	last := map[int][2]int{0: {4, 8}, 1: {2, 0}, 3: {5, 20}}
	wantUnchanged(t, "D4: ErrOld, ErrStale", func(d *detect.Detector) {
		for q, l := range last {
			for inc := 1; inc < l[0]; inc++ {
				for _, tick := range []int{0, l[1], l[1] + 1, 100, api.MaxCount} {
					wantRefused(t, d, q, inc, api.Beat{Tick: tick, Hears: hears}, api.ErrOld)
				}
			}
			for tick := 0; tick <= l[1]; tick++ {
				wantRefused(t, d, q, l[0], api.Beat{Tick: tick, Hears: hears}, api.ErrStale)
			}
		}
	})
}

// TestGreatest: the greatest numbers that a beat may have; behind them nothing of that incarnation is new.
func TestGreatest(t *testing.T) {
	d := made(t, 2, 0, api.MaxCount, 1, 1, 2)
	hear(t, d, 1, 3, api.MaxCount, api.MaxCount, api.MaxCount)
	wantEstimate(t, d, api.MaxCount, 3)
	wantHeard(t, d, 1, 3, api.MaxCount, api.ErrStale, 0, 0)
	hear(t, d, 1, api.MaxCount, 0, api.MaxCount, 0)
	wantEstimate(t, d, api.MaxCount, api.MaxCount)
	wantHeard(t, d, 1, api.MaxCount, 0, api.ErrStale, 0, 0)
	wantHeard(t, d, 1, api.MaxCount-1, api.MaxCount, api.ErrOld, 0, 0)
	hear(t, d, 1, api.MaxCount, api.MaxCount, api.MaxCount-1, 0)
	wantEstimate(t, d, api.MaxCount, 0)
}

// TestTakenBeat: D4, 4: a beat of a node that is heard sets its age back and blames nobody.
func TestTakenBeat(t *testing.T) {
	d := made(t, 2, 0, 1, 2, 1, 9)
	for tick := range 50 {
		hear(t, d, 1, 1, tick, 1, 1)
		ticks(d, 2)
		wantHears(t, d, 1, 1)
	}
	wantNumbers(t, d, 1, 1, 2, 0)
	hear(t, d, 1, 1, 1000, 1, 1) // ticks may be left out
	wantHeard(t, d, 1, 1, 999, api.ErrStale, 1, 1)
}

// TestRefusedBeatsAreNoBeats: a node of which only refused beats come is suspected as if it were silent.
func TestRefusedBeatsAreNoBeats(t *testing.T) {
	d := made(t, 2, 0, 1, 3, 1, 9)
	hear(t, d, 1, 2, 5, 1, 2)
	for range 4 {
		wantHears(t, d, 1, 2)
		wantHeard(t, d, 1, 2, 5, api.ErrStale, 1, 2)
		wantHeard(t, d, 1, 1, 9, api.ErrOld, 1, 2)
		wantHeard(t, d, 1, 2, 9, api.ErrArg, 1)
		d.Tick()
	}
	wantSuspects(t, d, 1)
	wantHeard(t, d, 1, 2, 5, api.ErrStale, 1, 2)
	wantHeard(t, d, 1, 1, 9, api.ErrOld, 1, 2)
	wantSuspects(t, d, 1)
	wantNumbers(t, d, 1, 2, 3, 0)
}

// TestMutualFollowsEachBeat: D6: the last beat that was taken says whether there is hearing both ways.
func TestMutualFollowsEachBeat(t *testing.T) {
	d := made(t, 3, 1, 5, 2, 1, 9)
	for tick, c := range []struct{ told, want int }{{5, 4}, {4, 0}, {5, 4}, {0, 0}, {6, 0}, {5, 4}, {api.MaxCount, 0}, {5, 4}} {
		hear(t, d, 0, 4, tick, 9, c.told, 9) // the 9 are of no meaning
		wantHears(t, d, 4, 5, 0)
		wantEstimate(t, d, c.want, 5, 0)
		wantHeard(t, d, 0, 4, tick, api.ErrStale, 0, 5, 0)
		wantHeard(t, d, 0, 4, tick, api.ErrStale, 0, 0, 0)
		wantEstimate(t, d, c.want, 5, 0)
	}
	hear(t, d, 0, 4, 50, 5, 0, 5) // 5 in other places than the own one
	wantEstimate(t, d, 0, 5, 0)
}

// TestWrongSuspicion: D4, 4: a suspected incarnation that is heard again.
func TestWrongSuspicion(t *testing.T) {
	for _, c := range []struct {
		base, step, limit int
		timeouts          []int
	}{
		{2, 3, 9, []int{2, 5, 8, 9, 9, 9}}, {2, 3, 8, []int{2, 5, 8, 8}}, {1, 64, 1, []int{1, 1, 1}}, {3, 1, 4, []int{3, 4, 4}},
		{1, 64, 64, []int{1, 64, 64}}, {64, 64, 64, []int{64, 64}}, {1, 63, 64, []int{1, 64, 64}}, {1, 62, 64, []int{1, 63, 64, 64}},
	} {
		d := made(t, 3, 2, 7, c.base, c.step, c.limit)
		for wrong, timeout := range c.timeouts {
			hear(t, d, 0, 3, wrong, 0, 0, 7)
			wantNumbers(t, d, 0, 3, timeout, wrong)
			wantNumbers(t, d, 1, 0, c.base, 0)
			ticks(d, timeout)
			wantHears(t, d, 3, 0, 7)
			d.Tick()
			wantHears(t, d, 0, 0, 7)
		}
	}
}

// TestNewIncarnation: it is no wrong suspicion, whether or not the old one was heard, and the timeout stays as it has grown.
func TestNewIncarnation(t *testing.T) {
	d := made(t, 2, 0, 1, 2, 3, 20)
	hear(t, d, 1, 1, 10, 1, 1)
	ticks(d, 3)
	hear(t, d, 1, 1, 11, 1, 1)
	wantNumbers(t, d, 1, 1, 5, 1)
	hear(t, d, 1, 2, 0, 0, 2) // while the old one is heard; with a lower tick
	wantNumbers(t, d, 1, 2, 5, 1)
	wantHears(t, d, 1, 2)
	wantEstimate(t, d, 1, 0)
	ticks(d, 5)
	wantHears(t, d, 1, 2)
	d.Tick()
	wantSuspects(t, d, 1)
	hear(t, d, 1, 9, 0, 1, 9) // while the old one is suspected; incarnations may be left out
	wantNumbers(t, d, 1, 9, 5, 1)
	wantEstimate(t, d, 1, 9)
	ticks(d, 6)
	hear(t, d, 1, 9, 1, 1, 9)
	wantNumbers(t, d, 1, 9, 8, 2)
}

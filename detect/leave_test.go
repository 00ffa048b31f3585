package detect_test

import (
	"testing"

	"quorate/api"
	"quorate/detect"
)

// TestLeave: D13: nobody is heard any more, and none will be.
func TestLeave(t *testing.T) {
	d := busy(t)
	before := look(d)
	d.Leave()
	wantBeat(t, d, 6, 0, 0, 0, 0, 0)
	wantHears(t, d, 0, 0, 0, 0, 0)
	wantEstimate(t, d, 0, 0, 7, 0, 0)
	wantSuspects(t, d, 0, 1, 3)
	for q := range 5 {
		wantNumbers(t, d, q, before.known[len(far())+q], before.timeout[len(far())+q], before.wrong[len(far())+q])
	}
	hear(t, d, 4, 1, 0, 0, 0, 7, 0, 1) // the first of a node
	hear(t, d, 3, 5, 21, 0, 0, 7, 5, 0)
	hear(t, d, 0, 6, 0, 0, 0, 7, 0, 0) // a new incarnation
	hear(t, d, 1, 2, 1, 0, 0, 7, 0, 0)
	for k := range 3 * api.MaxCap {
		wantBeat(t, d, 6+k, 0, 0, 0, 0, 0)
		wantEstimate(t, d, 0, 0, 7, 0, 0)
		wantSuspects(t, d, 0, 1, 3, 4)
		hear(t, d, 4, 1, k+1, 0, 0, 7, 0, 1)
		d.Tick()
	}
	wantNumbers(t, d, 0, 6, 5, 1)
	wantNumbers(t, d, 1, 2, 2, 0)
	wantNumbers(t, d, 2, 7, 0, 0)
	wantNumbers(t, d, 3, 5, 2, 0)
	wantNumbers(t, d, 4, 1, 2, 0)
}

// TestLeftStillJudgesBeats: known and last follow the beats that are taken.
func TestLeftStillJudgesBeats(t *testing.T) {
	d := made(t, 2, 0, 3, 2, 1, 9)
	d.Leave()
	wantSuspects(t, d)
	hear(t, d, 1, 4, 7, 3, 4)
	wantSuspects(t, d, 1)
	wantNumbers(t, d, 1, 4, 2, 0)
	wantHeard(t, d, 1, 4, 7, api.ErrStale, 3, 4)
	wantHeard(t, d, 1, 3, 9, api.ErrOld, 3, 4)
	wantHeard(t, d, 0, 3, 9, api.ErrArg, 3, 4)
	wantHeard(t, d, 1, 4, 9, api.ErrArg, 3, 4, 5)
	hear(t, d, 1, 4, 9, 3, 4)
	wantHeard(t, d, 1, 4, 8, api.ErrStale, 3, 4)
	hear(t, d, 1, 5, 0, 3, 4)
	wantNumbers(t, d, 1, 5, 2, 0)
	wantHeard(t, d, 1, 4, 10, api.ErrOld, 3, 4)
}

// TestLeaveTwice: a second Leave changes nothing, at once or later.
func TestLeaveTwice(t *testing.T) {
	gone := func(again func(d *detect.Detector)) *detect.Detector {
		d := busy(t)
		d.Leave()
		again(d)
		hear(t, d, 4, 1, 3, 0, 0, 7, 0, 1)
		d.Tick()
		again(d)
		return d
	}
	twice := gone(func(d *detect.Detector) { d.Leave() })
	wantSame(t, "D13: a second Leave", twice, gone(func(*detect.Detector) {}))
}

// TestOthersLeaveItOut: with the first beat that they take of it, while they go on hearing it.
func TestOthersLeaveItOut(t *testing.T) {
	a, b := made(t, 2, 0, 3, 5, 1, 9), made(t, 2, 1, 8, 5, 1, 9)
	for range 4 {
		turn(t, a, b)
	}
	wantEstimate(t, b, 3, 8)
	a.Leave()
	a.Tick()
	hear(t, b, 0, 3, a.Beat().Tick, a.Beat().Hears...)
	wantEstimate(t, b, 0, 8)
	wantHears(t, b, 3, 8)
	wantSuspects(t, b)
	for range 40 {
		turn(t, a, b)
		wantEstimate(t, a, 3, 0)
		wantEstimate(t, b, 0, 8)
		wantHears(t, b, 3, 8)
	}
	wantNumbers(t, a, 1, 8, 5, 0)
	wantNumbers(t, b, 0, 3, 5, 0)
}

// turn lets node 0 (incarnation 3) and node 1 (incarnation 8) tick and hear one another.
func turn(t *testing.T, a, b *detect.Detector) {
	t.Helper()
	a.Tick()
	b.Tick()
	x, y := a.Beat(), b.Beat()
	hear(t, a, 1, 8, y.Tick, y.Hears...)
	hear(t, b, 0, 3, x.Tick, x.Hears...)
}

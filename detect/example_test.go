package detect_test

import (
	"testing"

	"quorate/api"
)

// TestExamples: section 5.6, line by line.
func TestExamples(t *testing.T) {
	d := made(t, 3, 1, 5, 2, 3, 6)
	wantBeat(t, d, 0, 0, 5, 0)
	wantEstimate(t, d, 0, 5, 0)
	wantSuspects(t, d)
	wantNumbers(t, d, 0, 0, 2, 0)
	wantNumbers(t, d, 1, 5, 0, 0)
	wantNumbers(t, d, 3, 0, 0, 0)

	hear(t, d, 0, 4, 9, 4, 5, 0)
	wantHears(t, d, 4, 5, 0)
	wantEstimate(t, d, 4, 5, 0)
	wantHeard(t, d, 0, 4, 9, api.ErrStale, 4, 5, 0)
	wantHeard(t, d, 0, 3, 100, api.ErrOld, 4, 5, 0)
	wantHeard(t, d, 1, 4, 10, api.ErrArg, 4, 5, 0)
	wantHeard(t, d, 3, 4, 10, api.ErrArg, 4, 5, 0)
	wantHeard(t, d, 0, 0, 10, api.ErrArg, 4, 5, 0)
	wantHeard(t, d, 0, 4, 10, api.ErrArg, 4, 5)

	hear(t, d, 2, 1, 0, 0, 4, 1)
	wantHears(t, d, 4, 5, 1)
	wantEstimate(t, d, 4, 5, 0)

	ticks(d, 2)
	wantHears(t, d, 4, 5, 1)
	d.Tick()
	wantHears(t, d, 0, 5, 0)
	wantSuspects(t, d, 0, 2)
	wantEstimate(t, d, 0, 5, 0)
	wantBeat(t, d, 3, 0, 5, 0)

	hear(t, d, 0, 4, 10, 4, 5, 0)
	wantNumbers(t, d, 0, 4, 5, 1)
	ticks(d, 5)
	wantHears(t, d, 4, 5, 0)
	d.Tick()
	wantHears(t, d, 0, 5, 0)
	hear(t, d, 0, 4, 11, 4, 5, 0)
	wantNumbers(t, d, 0, 4, 6, 2)
	ticks(d, 6)
	wantHears(t, d, 4, 5, 0)
	d.Tick()
	wantHears(t, d, 0, 5, 0)
	hear(t, d, 0, 4, 12, 4, 5, 0)
	wantNumbers(t, d, 0, 4, 6, 3)

	hear(t, d, 0, 6, 1, 0, 0, 0)
	wantNumbers(t, d, 0, 6, 6, 3)
	wantHears(t, d, 6, 5, 0)
	wantEstimate(t, d, 0, 5, 0)

	at := d.Beat().Tick
	d.Leave()
	wantHears(t, d, 0, 0, 0)
	wantEstimate(t, d, 0, 5, 0)
	wantSuspects(t, d, 0, 2)
	hear(t, d, 0, 6, 2, 6, 5, 0)
	wantHears(t, d, 0, 0, 0)
	wantNumbers(t, d, 0, 6, 6, 3)
	wantHeard(t, d, 0, 6, 2, api.ErrStale, 6, 5, 0)
	d.Tick()
	wantBeat(t, d, at+1, 0, 0, 0)
}

// TestReadme: what README.md shows of this package.
func TestReadme(t *testing.T) {
	a, b := made(t, 2, 0, 1, 2, 1, 8), made(t, 2, 1, 4, 2, 1, 8)
	hear(t, b, 0, 1, a.Beat().Tick, a.Beat().Hears...)
	wantHears(t, b, 1, 4)
	wantEstimate(t, b, 0, 4)
	hear(t, a, 1, 4, b.Beat().Tick, b.Beat().Hears...)
	wantEstimate(t, a, 1, 4)
	ticks(a, 3)
	wantSuspects(t, a, 1)
	b.Tick()
	hear(t, a, 1, 4, b.Beat().Tick, b.Beat().Hears...)
	wantNumbers(t, a, 1, 4, 3, 1)
}

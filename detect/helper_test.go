package detect_test

import (
	"math"
	"slices"
	"testing"

	"quorate/api"
	"quorate/detect"
)

// made is a detector that has heard nobody.
func made(t *testing.T, nodes, self, inc, base, step, limit int) *detect.Detector {
	t.Helper()
	d, e := detect.New(nodes, self, inc, base, step, limit)
	if d == nil || e != api.OK {
		t.Fatalf("D1: New(%d, %d, %d, %d, %d, %d): error %d, want a detector", nodes, self, inc, base, step, limit, e)
	}
	return d
}

// hear hands over a beat that must be taken.
func hear(t *testing.T, d *detect.Detector, q, inc, tick int, hears ...int) {
	t.Helper()
	wantHeard(t, d, q, inc, tick, api.OK, hears...)
}

func wantHeard(t *testing.T, d *detect.Detector, q, inc, tick int, want api.Errno, hears ...int) {
	t.Helper()
	if e := d.Heard(q, inc, api.Beat{Tick: tick, Hears: hears}); e != want {
		t.Fatalf("D4: Heard(%d, %d, {%d %v}): error %d, want %d", q, inc, tick, hears, e, want)
	}
}

func ticks(d *detect.Detector, n int) {
	for range n {
		d.Tick()
	}
}

func wantList(t *testing.T, what string, got []int, want ...int) {
	t.Helper()
	if !slices.Equal(got, want) {
		t.Fatalf("%s = %v, want %v", what, got, want)
	}
}

func wantHears(t *testing.T, d *detect.Detector, want ...int) {
	t.Helper()
	wantList(t, "D5: Hears", d.Hears(), want...)
}

func wantEstimate(t *testing.T, d *detect.Detector, want ...int) {
	t.Helper()
	wantList(t, "D6: Estimate", d.Estimate(), want...)
}

func wantSuspects(t *testing.T, d *detect.Detector, want ...int) {
	t.Helper()
	wantList(t, "D7: Suspects", d.Suspects(), want...)
}

func wantNumbers(t *testing.T, d *detect.Detector, q, known, timeout, wrong int) {
	t.Helper()
	if d.Known(q) != known || d.Timeout(q) != timeout || d.Wrong(q) != wrong {
		t.Fatalf("D8: of %d: Known %d, Timeout %d, Wrong %d, want %d, %d, %d", q, d.Known(q), d.Timeout(q), d.Wrong(q), known, timeout, wrong)
	}
}

func wantBeat(t *testing.T, d *detect.Detector, tick int, hears ...int) {
	t.Helper()
	if b := d.Beat(); b.Tick != tick || !slices.Equal(b.Hears, hears) {
		t.Fatalf("D3: Beat = %v, want {%d %v}", b, tick, hears)
	}
}

// far are numbers that are no node's, whatever the detector.
func far() []int {
	return []int{math.MinInt, -api.MaxCount, -2, -1, api.MaxNodes, api.MaxNodes + 1, api.MaxCount, api.MaxCount + 1, math.MaxInt}
}

// seen is what a detector tells without changing, of numbers that are no nodes' too.
type seen struct {
	tick                            int
	beat, hears, estimate, suspects []int
	known, timeout, wrong           []int
}

func look(d *detect.Detector) seen {
	b := d.Beat()
	s := seen{tick: b.Tick, beat: b.Hears, hears: d.Hears(), estimate: d.Estimate(), suspects: d.Suspects()}
	numbers := far()
	for q := range api.MaxNodes {
		numbers = append(numbers, q)
	}
	for _, q := range numbers {
		s.known = append(s.known, d.Known(q))
		s.timeout = append(s.timeout, d.Timeout(q))
		s.wrong = append(s.wrong, d.Wrong(q))
	}
	return s
}

func sameSeen(a, b seen) bool {
	return a.tick == b.tick && slices.Equal(a.beat, b.beat) && slices.Equal(a.hears, b.hears) &&
		slices.Equal(a.estimate, b.estimate) && slices.Equal(a.suspects, b.suspects) &&
		slices.Equal(a.known, b.known) && slices.Equal(a.timeout, b.timeout) && slices.Equal(a.wrong, b.wrong)
}

// probed is how high a beat's tick is tried to find out which was the last.
const probed = 40

// spend uses a detector up to find out what it tells by no single call: the ages, by ticking till nobody can be heard, and the ticks of the last beats.
func spend(d *detect.Detector) []seen {
	var list []seen
	for range api.MaxCap + 2 {
		list = append(list, look(d))
		d.Tick()
	}
	hears := make([]int, len(d.Hears()))
	for q := range hears {
		for tick := range probed {
			if d.Known(q) > 0 && d.Heard(q, d.Known(q), api.Beat{Tick: tick, Hears: hears}) == api.OK {
				list = append(list, seen{tick: tick})
				break
			}
		}
		list = append(list, look(d))
	}
	return list
}

// wantSame holds two against each other in all that can be found out, and uses them up.
func wantSame(t *testing.T, what string, d, twin *detect.Detector) {
	t.Helper()
	got, want := spend(d), spend(twin)
	for k := range min(len(got), len(want)) {
		if !sameSeen(got[k], want[k]) {
			t.Fatalf("%s: in step %d of looking it tells %v, want %v", what, k, got[k], want[k])
		}
	}
	if len(got) != len(want) {
		t.Fatalf("%s: %d steps of looking, want %d", what, len(got), len(want))
	}
}

// busy is node 2 (incarnation 7) of five: node 0 is heard both ways and slow, node 1 is suspected, node 3 is heard and hears another incarnation, of node 4 nothing is known.
func busy(t *testing.T) *detect.Detector {
	t.Helper()
	d := made(t, 5, 2, 7, 2, 3, 9)
	hear(t, d, 0, 4, 3, 0, 0, 7, 0, 0)
	hear(t, d, 1, 2, 0, 0, 0, 7, 0, 0)
	ticks(d, 3)
	hear(t, d, 0, 4, 8, 4, 0, 7, 0, 0)
	ticks(d, 2)
	hear(t, d, 3, 5, 20, 0, 0, 6, 5, 0)
	d.Tick()
	wantBeat(t, d, 6, 4, 0, 7, 5, 0)
	return d
}

// wantUnchanged lets a busy detector do what must change nothing, ahead of its leaving and behind.
func wantUnchanged(t *testing.T, what string, do func(d *detect.Detector)) {
	t.Helper()
	d := busy(t)
	do(d)
	wantSame(t, what, d, busy(t))
	gone, twin := busy(t), busy(t)
	gone.Leave()
	do(gone)
	twin.Leave()
	wantSame(t, what+", behind Leave", gone, twin)
}

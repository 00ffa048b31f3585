package detect_test

import (
	"math"
	"testing"

	"quorate/api"
	"quorate/detect"
)

func TestNewTakes(t *testing.T) {
	for _, c := range [][6]int{
		{1, 0, 1, 1, 1, 1}, {2, 0, 1, 1, 1, 1}, {2, 1, 1, 1, 1, 1}, {16, 0, 1, 1, 1, 1}, {16, 15, 1, 1, 1, 1},
		{3, 1, api.MaxCount, 1, 1, 1}, {3, 1, 5, 64, 1, 64}, {3, 1, 5, 1, 64, 1}, {3, 1, 5, 1, 2, 1},
		{3, 1, 5, 64, 64, 64}, {3, 1, 5, 7, 3, 8}, {3, 1, 5, 8, 3, 8}, {3, 1, 5, 1, 1, 64},
	} {
		d := made(t, c[0], c[1], c[2], c[3], c[4], c[5])
		own := make([]int, c[0])
		own[c[1]] = c[2]
		wantBeat(t, d, 0, own...)
		wantHears(t, d, own...)
		wantEstimate(t, d, own...)
		wantSuspects(t, d)
		for q := range c[0] {
			if q != c[1] {
				wantNumbers(t, d, q, 0, c[3], 0)
			}
		}
		wantNumbers(t, d, c[1], c[2], 0, 0)
		wantNumbers(t, d, c[0], 0, 0, 0)
		ticks(d, 2*api.MaxCap)
		wantSuspects(t, d)
	}
}

func TestNewRefuses(t *testing.T) {
	good := [6]int{2, 0, 1, 3, 2, 9}
	bad := [6][]int{
		{0, -1, 17, math.MinInt, math.MaxInt},
		{-1, 2, 16, math.MinInt, math.MaxInt},
		{0, -1, api.MaxCount + 1, math.MinInt, math.MaxInt},
		{0, -1, 10, 64, 65, math.MinInt, math.MaxInt},
		{0, -1, 65, math.MinInt, math.MaxInt},
		{0, -1, 2, 65, math.MinInt, math.MaxInt},
	}
	for k, list := range bad {
		for _, v := range list {
			c := good
			c[k] = v
			wantNoDetector(t, c)
			for j, others := range bad {
				both := c
				both[j] = others[0]
				wantNoDetector(t, both)
			}
		}
	}
	for _, c := range [][6]int{
		{1, 1, 1, 1, 1, 1}, {16, 16, 1, 1, 1, 1}, {0, 0, 1, 1, 1, 1}, {2, 0, 1, 0, 1, 0}, {2, 0, 1, 2, 1, 1},
		{2, 0, 1, 65, 1, 65}, {2, 0, 1, 65, 1, 64}, {0, -1, 0, 0, 0, 0}, {2, 0, 1, -1, 1, -1},
	} {
		wantNoDetector(t, c)
	}
}

func wantNoDetector(t *testing.T, c [6]int) {
	t.Helper()
	if d, e := detect.New(c[0], c[1], c[2], c[3], c[4], c[5]); d != nil || e != api.ErrArg {
		t.Errorf("D1: New%v = %v, error %d, want nil, ErrArg", c, d, e)
	}
}

// TestAlone: a node without others hears itself alone.
func TestAlone(t *testing.T) {
	d := made(t, 1, 0, 9, 1, 1, 1)
	for q := -1; q <= 1; q++ {
		wantHeard(t, d, q, 1, 1, api.ErrArg, 9)
	}
	ticks(d, 5)
	wantBeat(t, d, 5, 9)
	wantEstimate(t, d, 9)
	wantSuspects(t, d)
	d.Leave()
	wantBeat(t, d, 5, 0)
	wantEstimate(t, d, 9)
	wantSuspects(t, d)
}

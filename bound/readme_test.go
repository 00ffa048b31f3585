package bound_test

import (
	"testing"

	"quorate/api"
	"quorate/bound"
	"quorate/script"
)

// TestReadme: what README.md shows of this package.
func TestReadme(t *testing.T) {
	want := func(got int, e api.Errno, n int) {
		t.Helper()
		if got != n || e != api.OK {
			t.Errorf("README: %d, error %d, want %d", got, e, n)
		}
	}
	s, _, e := script.Parse("quorate 1\n" +
		"nodes 3 window 8 base 2 step 1 cap 10 room 1000 floor 0\n" +
		"votes 1 1 1\n" +
		"round\n" +
		"crash 2\n" +
		"split 0 0 1\n" +
		"delay 0 1 2\n" +
		"round\n")
	if e != api.OK {
		t.Fatalf("README: error %d", e)
	}
	from, delay, e := bound.Premise(s, []int{0, 1})
	if from != 3 {
		t.Errorf("README: from %d", from)
	}
	want(delay, e, 2)
	if _, _, e = bound.Premise(s, []int{2}); e != api.ErrPremise {
		t.Errorf("README: error %d", e)
	}
	n, e := bound.Settle(s.Config, delay)
	want(n, e, 42)
	n, e = bound.Deliver(s.Config, delay)
	want(n, e, 128)
	n, e = bound.Answer(s.Config, delay)
	want(n, e, 298)
	n, e = bound.Doubts(s.Config, 2)
	want(n, e, 16)
}

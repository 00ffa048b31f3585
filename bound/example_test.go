package bound_test

import (
	"slices"
	"testing"

	"quorate/api"
)

// TestExamples: 18.4.
func TestExamples(t *testing.T) {
	c, l := config(3), numbers()
	wantNumber(t, l[0], c, 1, 34, api.OK)
	wantNumber(t, l[0], c, 2, 42, api.OK)
	wantNumber(t, l[0], c, 3, 0, api.ErrArg)
	wantNumber(t, l[1], c, 1, 96, api.OK)
	wantNumber(t, l[2], c, 1, 226, api.OK)
	wantNumber(t, l[3], c, 3, 48, api.OK)
	wantNumber(t, l[3], c, 1, 0, api.OK)
	wantNumber(t, l[3], c, 4, 0, api.ErrArg)

	wantNumber(t, l[1], with(c, func(c *api.Config) { c.Window = 5 }), 1, 132, api.OK)

	three := api.Script{Config: config(2), Events: events(2, "round", "cut 0 1", "heal 0 1", "round")}
	wantPremise(t, "example 3", three, []int{0, 1}, 3, 1, api.OK)
	wantPremise(t, "example 3", three, []int{0}, 0, 0, api.ErrPremise)
	three.Events = append(three.Events, events(2, "split 0 1")...)
	wantPremise(t, "example 3, split", three, []int{0}, 5, 1, api.OK)
	wantPremise(t, "example 3, split", three, []int{1}, 5, 1, api.OK)
	wantPremise(t, "example 3, split", three, []int{0, 1}, 0, 0, api.ErrPremise)

	four := api.Script{Config: config(2), Events: events(2, "crash 1", "round")}
	wantPremise(t, "example 4", four, []int{0, 1}, 0, 0, api.ErrPremise)
	four.Events = events(2, "crash 1", "restart 1", "round")
	wantPremise(t, "example 4", four, []int{0, 1}, 2, 1, api.OK)
	for k := 1; k < 6; k++ {
		dropped := api.Script{Config: config(3), Events: slices.Concat(events(3, "split 0 0 1"), rounds(k-1), events(3, "drop 0"))}
		wantPremise(t, "example 4, drop", dropped, []int{0, 1}, k+1, 1, api.OK)
		wantPremise(t, "example 4, drop", dropped, []int{2}, k+1, 1, api.OK)
	}
}

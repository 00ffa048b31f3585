package bound_test

import (
	"slices"
	"testing"

	"quorate/api"
	"quorate/bound"
)

// number is one of the calls that tell a number of a configuration and one more number.
type number struct {
	name string
	ask  func(c api.Config, n int) (int, api.Errno)
}

func numbers() []number {
	return []number{{"P18.1: Settle", bound.Settle}, {"P18.2: Deliver", bound.Deliver}, {"P18.3: Answer", bound.Answer}, {"P18.4: Doubts", bound.Doubts}}
}

// wantNumber: what a call answers.
func wantNumber(t *testing.T, x number, c api.Config, n, want int, e api.Errno) {
	t.Helper()
	if got, no := x.ask(c, n); got != want || no != e {
		t.Errorf("%s(%+v, %d) = %d, error %d, want %d, error %d", x.name, c, n, got, no, want, e)
	}
}

// times is how often by must be taken to have n at least.
func times(n, by int) int {
	k := 0
	for k*by < n {
		k++
	}
	return k
}

// TestNumbers: P18.1 to P18.3 for all that they can be told of.
func TestNumbers(t *testing.T) {
	l := numbers()
	for capped := 1; capped <= api.MaxCap; capped++ {
		for base := 1; base <= capped; base++ {
			for window := 1; window <= api.MaxWindow; window++ {
				c := with(config(3), func(c *api.Config) { c.Window, c.Base, c.Cap = window, base, capped })
				for delay := -1; delay <= 20; delay++ {
					if delay < 1 || delay > base || delay > 16 {
						for _, x := range l[:3] {
							wantNumber(t, x, c, delay, 0, api.ErrArg)
						}
						continue
					}
					settle, deliver := capped+8*delay+16, (times(32, window)+4)*(4*delay+8)
					wantNumber(t, l[0], c, delay, settle, api.OK)
					wantNumber(t, l[1], c, delay, deliver, api.OK)
					wantNumber(t, l[2], c, delay, settle+deliver+deliver, api.OK)
				}
			}
		}
	}
}

// TestOtherNumbersDoNotCount: P18.1 to P18.3: Nodes, Step, Room, Floor and Votes change nothing.
func TestOtherNumbersDoNotCount(t *testing.T) {
	for _, c := range []api.Config{
		config(1), config(16), with(config(3), func(c *api.Config) { c.Step = 10 }), with(config(3), func(c *api.Config) { c.Room = 1 }),
		with(config(3), func(c *api.Config) { c.Room = api.MaxRoom }), with(config(3), func(c *api.Config) { c.Floor = api.MaxCount }),
		with(config(3), func(c *api.Config) { c.Votes = []int{0, 9, 0} }),
	} {
		for i, want := range []int{42, 128, 298} {
			wantNumber(t, numbers()[i], c, 2, want, api.OK)
		}
	}
}

// TestDoubts: P18.4 for all that it can be told of.
func TestDoubts(t *testing.T) {
	doubts := numbers()[3]
	for capped := 1; capped <= api.MaxCap; capped++ {
		for base := 1; base <= capped; base++ {
			for step := 1; step <= capped; step++ {
				size := 1 + (7*base+step)%16
				c := with(config(16), func(c *api.Config) { c.Base, c.Step, c.Cap = base, step, capped })
				wantNumber(t, doubts, c, size, size*(size-1)*times(capped-base, step), api.OK)
			}
		}
	}
	for nodes := 1; nodes <= api.MaxNodes; nodes++ {
		for size := -2; size <= 20; size++ {
			if size < 1 || size > nodes {
				wantNumber(t, doubts, config(nodes), size, 0, api.ErrArg)
			} else {
				wantNumber(t, doubts, config(nodes), size, size*(size-1)*8, api.OK)
			}
		}
	}
}

// wrongConfigs are all invalid.
func wrongConfigs() []api.Config {
	var l []api.Config
	put := func(change func(c *api.Config)) { l = append(l, with(config(3), change)) }
	for _, n := range slices.Concat(far(), []int{0}) {
		put(func(c *api.Config) { c.Nodes = n })
		put(func(c *api.Config) { c.Window = n })
		put(func(c *api.Config) { c.Base = n })
		put(func(c *api.Config) { c.Step = n })
		put(func(c *api.Config) { c.Cap = n })
		put(func(c *api.Config) { c.Room = n })
	}
	for _, n := range far() {
		put(func(c *api.Config) { c.Floor = n })
		put(func(c *api.Config) { c.Votes[1] = n })
	}
	put(func(c *api.Config) { c.Nodes = 2 })
	put(func(c *api.Config) { c.Nodes, c.Votes = 17, slices.Repeat([]int{1}, 17) })
	put(func(c *api.Config) { c.Window = 9 })
	put(func(c *api.Config) { c.Base = 11 })
	put(func(c *api.Config) { c.Step = 11 })
	put(func(c *api.Config) { c.Cap = 65 })
	put(func(c *api.Config) { c.Room = 20001 })
	put(func(c *api.Config) { c.Votes = nil })
	put(func(c *api.Config) { c.Votes = []int{0, 0, 0} })
	put(func(c *api.Config) { c.Votes[0] = 10 })
	return append(l, api.Config{})
}

// TestWrongNumbers: P18.1 to P18.4: a configuration that is not valid comes first, then a number out of its range.
func TestWrongNumbers(t *testing.T) {
	for _, x := range numbers() {
		for _, c := range wrongConfigs() {
			for _, n := range slices.Concat(far(), []int{0, 1, 2, 3, 17}) {
				wantNumber(t, x, c, n, 0, api.ErrConfig)
			}
		}
		for _, n := range slices.Concat(far(), []int{0, 17, 1 << 20}) {
			wantNumber(t, x, config(16), n, 0, api.ErrArg)
		}
	}
}

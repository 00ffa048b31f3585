package detect

import (
	"testing"

	"quorate/api"
)

// TestTickStandsStill: the own tick's end is beyond what calls can reach; the others' ages go on there.
func TestTickStandsStill(t *testing.T) {
	d, _ := New(2, 0, 1, 3, 1, 9)
	d.tick = api.MaxCount - 1
	if e := d.Heard(1, 1, api.Beat{Tick: 0, Hears: []int{1, 1}}); e != api.OK {
		t.Fatalf("D4: Heard: error %d, want OK", e)
	}
	for k := range 4 {
		if heard := d.Hears()[1] == 1; !heard {
			t.Errorf("D2: not heard behind %d ticks, with a timeout of 3", k)
		}
		d.Tick()
		if got := d.Beat().Tick; got != api.MaxCount {
			t.Errorf("D2: the own tick is %d, want MaxCount", got)
		}
	}
	if len(d.Suspects()) != 1 {
		t.Errorf("D2: not suspected behind 4 ticks, with a timeout of 3")
	}
}

// fixed is a timeout that learns nothing, and tells whether it was asked to.
type fixed struct {
	ticks, grown int
}

func (f *fixed) howLong() int { return f.ticks }

func (f *fixed) grow() { f.grown++ }

// TestTimeoutIsAsked: what is kept of a node leaves it to its timeout how long to wait.
func TestTimeoutIsAsked(t *testing.T) {
	d, _ := New(2, 0, 1, 3, 1, 9)
	f := &fixed{ticks: 20}
	d.others[1].timeout = f
	for tick := range 3 {
		d.Heard(1, 1, api.Beat{Tick: tick, Hears: []int{1, 1}})
		if f.grown != tick || d.Timeout(1) != 20 || d.Wrong(1) != tick {
			t.Errorf("Ways: grown %d times, Timeout %d, Wrong %d, want %d, 20, %d", f.grown, d.Timeout(1), d.Wrong(1), tick, tick)
		}
		for range 20 {
			d.Tick()
		}
		if d.Hears()[1] != 1 {
			t.Errorf("Ways: not heard behind 20 ticks")
		}
		d.Tick()
		if d.Hears()[1] != 0 {
			t.Errorf("Ways: heard behind 21 ticks")
		}
	}
}

package node_test

import (
	"slices"
	"testing"

	"quorate/api"
	"quorate/journal"
	"quorate/machine"
	"quorate/node"
	"quorate/replica"
)

// wantRefused: New answers an error and nothing else.
func wantRefused(t *testing.T, c api.Config, self, inc int, d api.Disk, want api.Errno) {
	t.Helper()
	n, o, e := node.New(c, self, inc, d)
	if n != nil || e != want || o.Err != api.OK || len(o.Out)+len(o.Marks)+len(o.Write) > 0 {
		t.Errorf("P15.1: New(%+v, %d, %d, ..) = %v, %+v, error %d, want nothing and error %d", c, self, inc, n, o, e, want)
	}
}

// badDisk: one that Open refuses; badRecord: one whose records cannot be replayed; lateDisk: one behind whose promise no view can come.
func badDisk() api.Disk   { return api.Disk{B: []byte{1}} }
func badRecord() api.Disk { return disk(recPromise(api.MaxCount), recSafe(1)) }
func lateDisk() api.Disk  { return disk(recPromise(api.MaxCount)) }

// with is a configuration with something changed.
func with(c api.Config, change func(*api.Config)) api.Config {
	c.Votes = slices.Clone(c.Votes)
	change(&c)
	return c
}

// TestNewBadArguments: P15.1, point 1, ahead of whatever is amiss with the disk.
func TestNewBadArguments(t *testing.T) {
	disks := []api.Disk{{}, badDisk(), badRecord(), lateDisk()}
	numbers := []struct {
		at   func(*api.Config) *int
		l, h int // the ends of what is allowed
	}{
		{func(c *api.Config) *int { return &c.Nodes }, 3, 3},
		{func(c *api.Config) *int { return &c.Window }, 1, api.MaxWindow},
		{func(c *api.Config) *int { return &c.Base }, 1, 8},
		{func(c *api.Config) *int { return &c.Step }, 1, 8},
		{func(c *api.Config) *int { return &c.Cap }, 2, api.MaxCap},
		{func(c *api.Config) *int { return &c.Room }, 1, api.MaxRoom},
		{func(c *api.Config) *int { return &c.Floor }, 0, api.MaxCount - 1},
		{func(c *api.Config) *int { return &c.Votes[1] }, 0, api.MaxVotes},
	}
	for i, x := range numbers {
		for _, v := range []int{x.l, x.h} {
			made(t, with(config(3), func(c *api.Config) { *x.at(c) = v }), 1, 1, api.Disk{})
		}
		for _, v := range append(far(), x.l-1, x.h+1) {
			if i == 6 && v == api.MaxCount {
				continue // this Floor is valid, and spent
			}
			for _, d := range disks {
				wantRefused(t, with(config(3), func(c *api.Config) { *x.at(c) = v }), 1, 1, d, api.ErrArg)
			}
		}
	}
	for _, d := range disks {
		for _, votes := range [][]int{nil, {}, {1, 1}, {1, 1, 1, 1}, {0, 0, 0}, {1, 1, -1}, {10, 1, 1}} {
			wantRefused(t, with(config(3), func(c *api.Config) { c.Votes = votes }), 1, 1, d, api.ErrArg)
		}
		wantRefused(t, api.Config{}, 0, 1, d, api.ErrArg)
		wantRefused(t, config(17), 0, 1, d, api.ErrArg)
		for _, v := range append(far(), 3) {
			wantRefused(t, config(3), v, 1, d, api.ErrArg)
		}
		for _, v := range append(far(), 0) {
			wantRefused(t, config(3), 1, v, d, api.ErrArg)
		}
	}
	for _, inc := range []int{1, 2, api.MaxCount} {
		for self := range 16 {
			made(t, config(16), self, inc, api.Disk{})
		}
	}
}

// TestNewBadDisks: P15.1, points 2 to 4, in their order.
func TestNewBadDisks(t *testing.T) {
	late := with(config(3), func(c *api.Config) { c.Floor = api.MaxCount })
	torn := lateDisk()
	torn.A = append(file(api.MaxCount, recPromise(1)), 1) // it would have to be written anew
	for _, c := range []api.Config{config(3), late} {
		wantRefused(t, c, 2, 9, badDisk(), api.ErrFile)
		wantRefused(t, c, 2, 9, api.Disk{A: []byte("qj?")}, api.ErrFile)
		wantRefused(t, c, 2, 9, torn, api.ErrSpent)
		wantRefused(t, c, 2, 9, badRecord(), api.ErrRecord)
		for _, r := range []api.Record{recSafe(1), {Kind: api.RecState}, {Kind: api.RecAppend, Body: []byte{1}}, {Kind: api.RecPromise, Body: []byte{0x80, 0}}} {
			wantRefused(t, c, 2, 9, disk(recPromise(3), r), api.ErrRecord)
		}
		wantRefused(t, c, 2, 9, lateDisk(), api.ErrSpent)
		wantRefused(t, c, 2, 9, disk(recState(0, api.MaxCount, 0, []byte(emptyShot))), api.ErrSpent)
		wantRefused(t, c, 2, 9, disk(recState(api.MaxCount, 0, 0, []byte(emptyShot)), recPromise(2)), api.ErrSpent)
	}
	wantRefused(t, late, 2, 9, api.Disk{}, api.ErrSpent)
	wantRefused(t, late, 2, 9, disk(recPromise(4)), api.ErrSpent)
}

// manyDisks are sound ones of all kinds, also such as have to be made sound again.
func manyDisks() []api.Disk {
	a, b, c := set(0, 1, 1, "a", "x"), set(1, 1, 1, "b", "y"), set(0, 1, 2, "a", "z")
	m := machine.New()
	m.Apply(a)
	checkpoint := recState(4, 3, 1, m.Snapshot(), b, c)
	l := []api.Disk{
		{}, disk(), disk(recPromise(7)),
		disk(recAppend(a)), disk(recAppend(a), recSafe(1)), disk(recAppend(a), recAppend(b), recSafe(1), recAppend(c), recSafe(3)),
		disk(recAppend(a), recSafe(1), checkpoint), disk(recAppend(a), recSafe(1), checkpoint, recSafe(2)), disk(checkpoint, recSafe(3), checkpoint),
		disk(recAppend(a), recSafe(1), checkpoint, recPromise(9), recSafe(3)),
		{A: file(3, recPromise(8)), B: file(4, checkpoint, recSafe(2))},
		{A: file(api.MaxCount, checkpoint, recSafe(3)), B: []byte("whatever")},
		{A: []byte("qj"), B: nil},
	}
	for _, d := range slices.Clone(l) {
		if len(d.A) > 18 && len(d.B) == 0 {
			l = append(l, api.Disk{A: d.A[:len(d.A)-1]}, api.Disk{A: append(slices.Clone(d.A), 3)})
		}
	}
	return l
}

// TestNewAnswers: P15.1: what New tells and writes, by the disk that it is given.
func TestNewAnswers(t *testing.T) {
	rewritten, applied := 0, 0
	for _, d := range manyDisks() {
		for self := range 3 {
			inc := 5 + self
			_, l, ws, _ := journal.Open(d)
			r, _ := replica.New(config(3), self, inc, l)
			want := []api.Mark{{Kind: api.MarkBoot, Node: self, Inc: inc}}
			for _, m := range r.Marks() {
				want = append(want, api.Mark{Kind: api.MarkApply, Node: self, Inc: inc, N: m.N, Cmd: m.Cmd, Result: m.Result})
				applied++
			}
			n, o := made(t, config(3), self, inc, d)
			if !sameOutput(o, api.Output{Marks: want, Write: ws}) {
				t.Fatalf("P15.1: New of the disk %q answers %+v, want %+v and %+v", d, o, want, ws)
			}
			if len(l) > 0 && len(ws) > 0 {
				rewritten++
			}
			if n.Status() != r.Status() || len(n.View().Members) != 0 || n.View().ID != (api.ViewID{}) || n.Halted() {
				t.Fatalf("P15.8: a new node: %+v, %+v, %v", n.Status(), n.View(), n.Halted())
			}
		}
	}
	if rewritten == 0 || applied == 0 {
		t.Error("the test is too weak")
	}
}

// TestFloor: P15.1: the first view's epoch is 1 more than the greater of the Floor and what the journal has promised.
func TestFloor(t *testing.T) {
	shot := []byte(emptyShot)
	for _, x := range []struct {
		floor int
		d     api.Disk
		want  int
	}{
		{0, api.Disk{}, 1}, {6, api.Disk{}, 7}, {0, disk(recPromise(6)), 7}, {5, disk(recPromise(6)), 7}, {7, disk(recPromise(6)), 8},
		{0, disk(recPromise(6), recPromise(2)), 7}, {2, disk(recState(4, 3, 0, shot)), 5}, {2, disk(recState(0, 3, 0, shot)), 4},
		{2, disk(recState(9, 3, 0, shot), recState(1, 1, 0, shot)), 10},
		{0, disk(recPromise(api.MaxCount - 1)), api.MaxCount}, {api.MaxCount - 1, api.Disk{}, api.MaxCount},
	} {
		c := with(config(1), func(c *api.Config) { c.Floor = x.floor })
		r := rigged(t, c, 0, 2, x.d)
		o := r.step(tick)
		if r.View().ID.Epoch != x.want || o.Err != api.OK {
			t.Errorf("P15.1: the Floor %d, the disk %q: the first view is %+v, want the epoch %d", x.floor, x.d, r.View(), x.want)
		}
		if s := r.Status(); s.Promise < x.want {
			t.Errorf("P15.4: the status in %+v is %+v", r.View(), s)
		}
	}
}

package bound_test

import (
	"math/rand"
	"slices"
	"testing"

	"quorate/api"
	"quorate/bound"
	"quorate/detect"
)

// drawnLong is a configuration under which wrong suspicions have an end within a script.
func drawnLong(r *rand.Rand) api.Config {
	c := drawnConfig(r)
	if r.Intn(3) > 0 {
		c.Cap, c.Base = 2+r.Intn(15), 1
		c.Step = max(1, (c.Cap-1)/(1+r.Intn(2)))
	}
	return c
}

// sway: within the set all delays change at once, to short ones or to the longest.
func (s *story) sway(longest int) {
	n := []int{1, longest}[s.Intn(2)]
	for _, p := range s.set {
		for _, q := range s.set {
			if p != q {
				s.add(api.EvDelay, p, q, n)
			}
		}
	}
}

// TestLongerDelays: P18.10.
func TestLongerDelays(t *testing.T) {
	t.Parallel()
	scripts, most, apart := 0, 0, 0
	for seed := range int64(160) {
		r := rand.New(rand.NewSource(7000 + seed))
		c := drawnLong(r)
		st := &story{Rand: r, c: c, set: drawnSet(r, c.Nodes)}
		st.unrest(r.Intn(8))
		longest := min(c.Cap, api.MaxDelay)
		st.settleDown(longest)
		for range 1 + r.Intn(20) {
			st.quiet(1+r.Intn(60), longest, load{often: []int{0, 5, 30}[r.Intn(3)], moves: []int{0, 10, 100}[r.Intn(3)]})
			st.sway(longest)
		}
		st.quiet(30, longest, load{})
		s := st.script()
		from, delay, ok := premise(t, s, st.set, longest)
		if !ok {
			t.Fatalf("the set %v is not left alone", st.set)
		}
		a := &alone{t: t, s: s, set: st.set, from: from, delay: delay}
		a.play()
		if a.isFull() {
			continue
		}
		doubts := sure(t, "P18.4")(bound.Doubts(c, len(st.set)))
		limit, n := (doubts+1)*2*(c.Cap+8*delay+16), a.apart()
		if n > limit {
			t.Fatalf("P18.10: seed %d: %d rounds of %d, at most %d", seed, n, a.total, limit)
		}
		a.wantUnbroken()
		scripts, most, apart = scripts+1, max(most, 100*n/limit), apart+n
	}
	t.Log(scripts, most, apart)
	if scripts < 140 || most < 8 || apart < 4000 {
		t.Errorf("%d scripts, %d rounds apart, up to %d hundredths of the bound: the test is too weak", scripts, apart, most)
	}
}

// TestDoubtsEnd: P18.10 with few doubts, and delays that sway for so long that without an end to them the bound would be passed.
func TestDoubtsEnd(t *testing.T) {
	t.Parallel()
	for seed := range int64(12) {
		r := rand.New(rand.NewSource(8000 + seed))
		c := with(config(2), func(c *api.Config) { c.Room, c.Base, c.Cap = api.MaxRoom, 1, 3+r.Intn(6); c.Step = c.Cap - 1 })
		st := &story{Rand: r, c: c, set: all(2)}
		for len(st.l) < api.MaxEvents {
			for _, n := range []int{c.Cap, 1} {
				st.add(api.EvDelay, 0, 1, n)
				st.add(api.EvDelay, 1, 0, n)
				st.quiet(c.Cap+r.Intn(3), c.Cap, load{})
			}
		}
		s := api.Script{Config: c, Events: st.l[:api.MaxEvents]}
		a := &alone{t: t, s: s, set: st.set, delay: c.Cap}
		if _, delay, ok := premise(t, s, st.set, c.Cap); !ok || delay != c.Cap {
			t.Fatalf("18.2: %v, delay %d", ok, delay)
		}
		a.play()
		if n, limit := a.apart(), 3*2*(c.Cap+8*c.Cap+16); n < 2 || n > limit || a.total < 2*limit {
			t.Errorf("P18.10: %d rounds of %d, at most %d", n, a.total, limit)
		}
	}
}

// detectors of a set that hear one another.
func detectors(t testing.TB, c api.Config, size int) []*detect.Detector {
	t.Helper()
	var l []*detect.Detector
	for p := range size {
		d, e := detect.New(c.Nodes, p, 1, c.Base, c.Step, c.Cap)
		if e != api.OK {
			t.Fatalf("D1: error %d", e)
		}
		l = append(l, d)
	}
	for p := range l {
		for q := range l {
			hear(t, l, p, q)
		}
	}
	return l
}

// hear lets p take a beat of q.
func hear(t testing.TB, l []*detect.Detector, p, q int) {
	t.Helper()
	if e := l[p].Heard(q, 1, l[q].Beat()); p != q && e != api.OK {
		t.Fatalf("D4: error %d", e)
	}
}

// doubted is how often they suspected one another falsely.
func doubted(l []*detect.Detector) int {
	n := 0
	for _, d := range l {
		for q := range l {
			n += d.Wrong(q)
		}
	}
	return n
}

// TestDoubted: P18.4: what Doubts tells is what detectors come to that hear one another once in Cap ticks, and they never come to more.
func TestDoubted(t *testing.T) {
	r := rand.New(rand.NewSource(1))
	for range 60 {
		c := with(config(1+r.Intn(6)), func(c *api.Config) {
			c.Cap = 1 + r.Intn(20)
			c.Base, c.Step = 1+r.Intn(c.Cap), 1+r.Intn(c.Cap)
		})
		size := 1 + r.Intn(c.Nodes)
		want := sure(t, "P18.4")(bound.Doubts(c, size))
		if n := silences(t, c, size, func() bool { return false }); n != want {
			t.Errorf("P18.4: %+v, %d nodes: %d wrong suspicions with the longest silences, Doubts is %d", c, size, n, want)
		}
		if n := silences(t, c, size, func() bool { return r.Intn(c.Cap) == 0 }); n > want {
			t.Errorf("P18.4: %+v, %d nodes: %d wrong suspicions, Doubts is %d", c, size, n, want)
		}
	}
}

// silences lets detectors tick for long. Each hears each other when it is early for it, and else behind Cap ticks: how often they were wrong.
func silences(t testing.TB, c api.Config, size int, early func() bool) int {
	t.Helper()
	l := detectors(t, c, size)
	silent := make([]int, size*size)
	for range 30 * c.Cap {
		for _, d := range l {
			d.Tick()
		}
		for i := range silent {
			silent[i]++
			if silent[i] == c.Cap || early() {
				hear(t, l, i/size, i%size)
				silent[i] = 0
			}
		}
	}
	return doubted(l)
}

// TestApart: the count of P18.10's rounds is itself one that sees them.
func TestApart(t *testing.T) {
	c := with(config(2), func(c *api.Config) { c.Room = api.MaxRoom })
	s := api.Script{Config: c, Events: slices.Concat(rounds(20), events(2, "split 0 1"), rounds(20), events(2, "split 0 0"), rounds(20))}
	from, delay, ok := premise(t, s, []int{0, 1}, 2)
	if from != 42 || delay != 1 || !ok {
		t.Fatalf("18.2: %d, %d, %v", from, delay, ok)
	}
	a := &alone{t: t, s: s, set: []int{0, 1}, from: from, delay: delay}
	a.play()
	if n := a.apart(); n < 3 || n > 8 {
		t.Errorf("%d rounds apart", n)
	}
	a.from = 0
	if n := a.apart(); n < 20 || n > 35 {
		t.Errorf("%d rounds apart", n)
	}
}

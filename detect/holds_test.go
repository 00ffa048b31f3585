package detect_test

import (
	"math/rand"
	"testing"

	"quorate/api"
	"quorate/detect"
)

// talker is one incarnation of a node that beats to the node 0 (incarnation 1) of two.
type talker struct {
	inc, tick int
}

func (k *talker) beat(t *testing.T, d *detect.Detector) {
	t.Helper()
	k.tick++
	hear(t, d, 1, k.inc, k.tick, 1, k.inc)
}

// refusedBeats hands over what must count for nothing.
func (k *talker) refusedBeats(t *testing.T, d *detect.Detector) {
	t.Helper()
	wantHeard(t, d, 1, k.inc, k.tick, api.ErrStale, 1, k.inc)
	wantHeard(t, d, 1, k.inc-1, k.tick+1, api.ErrOld, 1, k.inc)
	wantHeard(t, d, 1, k.inc, k.tick+1, api.ErrArg, 1)
}

// past lets anything happen to a detector.
func (k *talker) past(t *testing.T, r *rand.Rand, d *detect.Detector, limit int) {
	t.Helper()
	k.beat(t, d)
	for range r.Intn(12) {
		ticks(d, r.Intn(limit+3))
		if r.Intn(6) == 0 {
			k.inc++
			k.tick = r.Intn(3)
		}
		k.beat(t, d)
	}
}

// settings goes through bases, steps and limits, the greatest among them.
func settings(do func(base, step, limit int)) {
	for limit := 1; limit <= 7; limit++ {
		for base := 1; base <= limit; base++ {
			for step := 1; step <= limit+1; step++ {
				do(base, step, limit)
			}
		}
	}
	do(1, 1, api.MaxCap)
	do(5, 7, api.MaxCap)
	do(1, api.MaxCap, api.MaxCap)
	do(api.MaxCap, 1, api.MaxCap)
}

// TestSilentIsSuspected: D9.
func TestSilentIsSuspected(t *testing.T) {
	r := rand.New(rand.NewSource(9))
	settings(func(base, step, limit int) {
		d, k := made(t, 2, 0, 1, base, step, limit), &talker{inc: 2}
		k.past(t, r, d, limit)
		for range limit + 1 {
			k.refusedBeats(t, d)
			d.Tick()
		}
		for range limit + 2 {
			wantHears(t, d, 1, 0)
			wantSuspects(t, d, 1)
			k.refusedBeats(t, d)
			d.Tick()
		}
		k.beat(t, d)
		wantHears(t, d, 1, k.inc)
	})
}

// TestLimitTicksAreNotTooMany: D9 names no more ticks than are needed: with the timeout at its limit the node is heard behind limit ticks.
func TestLimitTicksAreNotTooMany(t *testing.T) {
	settings(func(base, step, limit int) {
		d, k := made(t, 2, 0, 1, base, step, limit), &talker{inc: 2}
		k.beat(t, d)
		for range mostWrong(base, step, limit) {
			ticks(d, limit+1)
			k.beat(t, d)
		}
		ticks(d, limit)
		wantHears(t, d, 1, 2)
		d.Tick()
		wantHears(t, d, 1, 0)
	})
}

// TestOftenEnoughIsNotSuspected: D10, with new incarnations among the beats, and the longest silences among the others.
func TestOftenEnoughIsNotSuspected(t *testing.T) {
	r := rand.New(rand.NewSource(10))
	settings(func(base, step, limit int) {
		d, k := made(t, 2, 0, 1, base, step, limit), &talker{inc: 2}
		k.past(t, r, d, limit)
		wrong := d.Wrong(1)
		for range 40 {
			silent := d.Timeout(1)
			if r.Intn(2) == 0 {
				silent = r.Intn(silent + 1)
			}
			for range silent {
				d.Tick()
				wantHears(t, d, 1, k.inc)
			}
			if r.Intn(8) == 0 {
				k.inc, k.tick = k.inc+1, 0
			}
			k.beat(t, d)
			wantHears(t, d, 1, k.inc)
		}
		if d.Wrong(1) != wrong {
			t.Fatalf("D10: %d wrong suspicions of a node that was heard often enough", d.Wrong(1)-wrong)
		}
	})
}

// mostWrong is (limit - base)/step, rounded up.
func mostWrong(base, step, limit int) int { return (limit - base + step - 1) / step }

// TestWrongSuspicionsEnd: D11.
func TestWrongSuspicionsEnd(t *testing.T) {
	r := rand.New(rand.NewSource(11))
	settings(func(base, step, limit int) {
		d, k := made(t, 2, 0, 1, base, step, limit), &talker{inc: 2}
		k.past(t, r, d, limit)
		ticks(d, r.Intn(2*limit+2)) // a silence that began ahead
		wrong := d.Wrong(1)
		for range 2*api.MaxCap + 2 {
			k.beat(t, d)
			if want := min(base+d.Wrong(1)*step, limit); d.Timeout(1) != want {
				t.Fatalf("D11: base %d, step %d, limit %d, Wrong %d: Timeout %d, want %d", base, step, limit, d.Wrong(1), d.Timeout(1), want)
			}
			ticks(d, min(limit, d.Timeout(1)+r.Intn(2)))
		}
		if further := d.Wrong(1) - wrong; further > mostWrong(base, step, limit)+1 {
			t.Fatalf("D11: base %d, step %d, limit %d: %d further wrong suspicions", base, step, limit, further)
		}
		wrong = d.Wrong(1)
		for range 2 * api.MaxCap {
			k.beat(t, d)
			ticks(d, limit)
		}
		k.beat(t, d)
		wantBound(t, d, base, step, limit, wrong)
	})
}

// wantBound: behind ever so many silences of limit ticks each the timeout is at the limit.
func wantBound(t *testing.T, d *detect.Detector, base, step, limit, wrong int) {
	t.Helper()
	if further := d.Wrong(1) - wrong; further > mostWrong(base, step, limit)+1 || d.Timeout(1) != limit {
		t.Fatalf("D11: base %d, step %d, limit %d: %d further wrong suspicions, Timeout %d", base, step, limit, further, d.Timeout(1))
	}
}

// TestAsManyWrongSuspicionsAsCanBe: D11's number is reached, by silences of limit ticks from the first beat on.
func TestAsManyWrongSuspicionsAsCanBe(t *testing.T) {
	settings(func(base, step, limit int) {
		d, k := made(t, 2, 0, 1, base, step, limit), &talker{inc: 2}
		for range 2 * api.MaxCap {
			k.beat(t, d)
			ticks(d, limit)
		}
		k.beat(t, d)
		if want := mostWrong(base, step, limit); d.Wrong(1) != want || d.Timeout(1) != limit {
			t.Fatalf("D11: base %d, step %d, limit %d: Wrong %d, Timeout %d, want %d, %d", base, step, limit, d.Wrong(1), d.Timeout(1), want, limit)
		}
		ticks(d, limit+1)
		k.beat(t, d)
		if want := mostWrong(base, step, limit) + 1; d.Wrong(1) != want {
			t.Fatalf("D11: behind one silence more: Wrong %d, want %d", d.Wrong(1), want)
		}
	})
}

// TestOldIncarnations: D12, at any point of any past.
func TestOldIncarnations(t *testing.T) {
	r := rand.New(rand.NewSource(12))
	for range 150 {
		m := newModel(r)
		d := made(t, m.nodes, m.self, m.inc, m.base, m.step, m.limit)
		for range 100 {
			wildStep(t, r, d, m)
			before := look(d)
			for q := range m.beats {
				for inc := m.known(q) - 1; inc >= max(1, m.known(q)-3); inc-- {
					for _, tick := range []int{0, m.beats[q].tick, min(api.MaxCount, m.beats[q].tick+1), api.MaxCount} {
						b := api.Beat{Tick: tick, Hears: make([]int, m.nodes)}
						b.Hears[m.self] = m.inc
						wantRefused(t, d, q, inc, b, api.ErrOld)
					}
				}
			}
			if got := look(d); !sameSeen(got, before) {
				t.Fatalf("D12: a beat of an old incarnation had an effect: %v, want %v", got, before)
			}
		}
	}
}

// onItsWay is a beat that arrives later.
type onItsWay struct {
	from, to, due int
	beat          api.Beat
}

// talk is a few nodes, with the incarnations 10, 11 and so on, that tick each round, over paths that take from 1 round to as many as the limit, and turn beats round: so there are never more than limit ticks between two beats that are taken.
type talk struct {
	nodes []*detect.Detector
	limit int
	way   []onItsWay
}

func (k *talk) arrive(t *testing.T, round int) {
	t.Helper()
	var later []onItsWay
	for _, w := range k.way {
		if w.due > round {
			later = append(later, w)
		} else if e := k.nodes[w.to].Heard(w.from, 10+w.from, w.beat); e != api.OK && e != api.ErrStale {
			t.Fatalf("D4: Heard(%d, %d, %v): error %d", w.from, 10+w.from, w.beat, e)
		}
	}
	k.way = later
}

func (k *talk) tick(r *rand.Rand, round int) {
	for q, d := range k.nodes {
		d.Tick()
		for p := range k.nodes {
			if p != q {
				k.way = append(k.way, onItsWay{q, p, round + 1 + r.Intn(k.limit), d.Beat()})
			}
		}
	}
}

// check: whose timeout has grown to the limit is not suspected any more.
func (k *talk) check(t *testing.T, round int) {
	t.Helper()
	for q, d := range k.nodes {
		for p := range k.nodes {
			if p != q && d.Timeout(p) == k.limit && d.Hears()[p] != 10+p {
				t.Fatalf("D10: in round %d node %d does not hear node %d, with the timeout at its limit", round, q, p)
			}
		}
	}
}

func TestTalkWithDelays(t *testing.T) {
	r := rand.New(rand.NewSource(3))
	for range 30 {
		const nodes, limit = 4, 8
		base, step := 1+r.Intn(3), 1+r.Intn(3)
		k := &talk{limit: limit}
		for q := range nodes {
			k.nodes = append(k.nodes, made(t, nodes, q, 10+q, base, step, limit))
		}
		for round := range 500 {
			k.arrive(t, round)
			k.tick(r, round)
			k.check(t, round)
		}
		for _, d := range k.nodes {
			for p := range nodes {
				if d.Wrong(p) > mostWrong(base, step, limit) {
					t.Fatalf("D11: %d wrong suspicions of node %d, at most %d can be", d.Wrong(p), p, mostWrong(base, step, limit))
				}
			}
		}
	}
}

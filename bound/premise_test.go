package bound_test

import (
	"fmt"
	"math/rand"
	"slices"
	"strconv"
	"strings"
	"testing"

	"quorate/api"
	"quorate/bound"
)

// wantLines: of a script of three nodes with Base 2, whose events are told as lines.
func wantLines(t *testing.T, set []int, from, delay int, e api.Errno, lines ...string) {
	t.Helper()
	s := api.Script{Config: config(3), Events: events(3, lines...)}
	wantPremise(t, fmt.Sprint(set, " ", strings.Join(lines, "; ")), s, set, from, delay, e)
}

// TestNodesOfTheSet: 18.2: every node of the set is up and has not left.
func TestNodesOfTheSet(t *testing.T) {
	set, set01 := all(3), []int{0, 1}
	wantLines(t, set, 0, 1, api.OK)
	wantLines(t, set, 0, 1, api.OK, "round", "round")
	for p := range 3 {
		q := strconv.Itoa(p)
		wantLines(t, set, 0, 0, api.ErrPremise, "crash "+q, "round")
		wantLines(t, set, 2, 1, api.OK, "crash "+q, "restart "+q, "round")
		wantLines(t, set, 4, 1, api.OK, "crash "+q, "crash "+q, "round", "restart "+q, "round")
		wantLines(t, set, 0, 0, api.ErrPremise, "tear "+q+" 0")
		wantLines(t, set, 0, 0, api.ErrPremise, "tear "+q+" 4611686018427387904")
		wantLines(t, set, 2, 1, api.OK, "tear "+q+" 5", "restart "+q)
		wantLines(t, set, 0, 0, api.ErrPremise, "leave "+q)
		wantLines(t, set, 0, 0, api.ErrPremise, "leave "+q, "restart "+q, "round") // it is up: that is no restart
		wantLines(t, set, 0, 0, api.ErrPremise, "leave "+q, "crash "+q)
		wantLines(t, set, 3, 1, api.OK, "leave "+q, "crash "+q, "restart "+q)
		wantLines(t, set, 3, 1, api.OK, "leave "+q, "tear "+q+" 1", "restart "+q)
		wantLines(t, set, 3, 1, api.OK, "crash "+q, "leave "+q, "restart "+q) // it is down: it does not leave
		wantLines(t, set, 0, 0, api.ErrPremise, "crash "+q, "restart "+q, "leave "+q)
	}
	// what the others do is all one
	wantLines(t, set01, 1, 1, api.OK, "split 0 0 1", "crash 2", "restart 2", "leave 2", "tear 2 3", "tick 2", "round")
	wantLines(t, set01, 3, 1, api.OK, "crash 2", "leave 2", "split 4 4 0")
	wantLines(t, []int{2}, 0, 0, api.ErrPremise, "crash 2", "split 0 0 1")
}

// TestPathsOfTheSet: 18.2: paths within the set are open and short, paths into it cut; all else is all one.
func TestPathsOfTheSet(t *testing.T) {
	set01 := []int{0, 1}
	wantLines(t, set01, 0, 0, api.ErrPremise)
	wantLines(t, set01, 0, 0, api.ErrPremise, "cut 2 0")
	wantLines(t, set01, 2, 1, api.OK, "cut 2 0", "cut 2 1", "cut 2 1", "round")
	wantLines(t, set01, 0, 0, api.ErrPremise, "cut 2 0", "cut 2 1", "heal 2 1")
	wantLines(t, set01, 4, 1, api.OK, "cut 2 0", "cut 2 1", "heal 2 1", "cut 2 1")
	wantLines(t, set01, 2, 1, api.OK, "cut 2 0", "cut 2 1", "cut 0 2", "heal 0 2", "cut 1 2", "delay 1 2 16", "delay 2 1 16")
	wantLines(t, set01, 0, 0, api.ErrPremise, "cut 2 0", "crash 2") // that it is down does not cut its paths
	wantLines(t, set01, 0, 0, api.ErrPremise, "split 0 0 1", "cut 1 0")
	wantLines(t, set01, 3, 1, api.OK, "split 0 0 1", "cut 1 0", "heal 1 0", "heal 1 0")
	wantLines(t, set01, 1, 1, api.OK, "split 0 0 1", "split 3 3 2", "split 0 0 15")
	wantLines(t, set01, 4, 1, api.OK, "split 0 0 1", "split 0 1 1", "cut 2 1", "split 0 0 1")
	wantLines(t, set01, 3, 1, api.OK, "split 0 0 1", "split 0 0 0", "split 1 1 0")
	wantLines(t, []int{2}, 1, 1, api.OK, "split 0 1 2", "split 0 0 2", "delay 2 0 16")
	wantLines(t, []int{0, 2}, 1, 1, api.OK, "split 0 1 0", "round")
	wantLines(t, all(3), 0, 1, api.OK, "heal 0 1", "split 5 5 5")
}

// TestDelaysOfTheSet: 18.2 and P18.5: how long paths within the set may be, and the greatest delay from t on.
func TestDelaysOfTheSet(t *testing.T) {
	set := all(3)
	wantLines(t, set, 0, 2, api.OK, "delay 0 1 2")
	wantLines(t, set, 0, 2, api.OK, "delay 0 1 2", "delay 0 1 1")
	wantLines(t, set, 0, 2, api.OK, "round", "delay 2 1 1", "delay 2 1 2", "delay 2 1 1", "round")
	wantLines(t, set, 0, 0, api.ErrPremise, "delay 0 1 3")
	wantLines(t, set, 0, 0, api.ErrPremise, "delay 2 0 16", "round")
	wantLines(t, set, 2, 1, api.OK, "delay 0 1 3", "delay 0 1 1")
	wantLines(t, set, 3, 2, api.OK, "delay 0 1 2", "delay 0 1 3", "delay 0 1 2", "delay 0 1 1")
	wantLines(t, set, 4, 1, api.OK, "delay 0 1 2", "delay 0 1 1", "round", "drop 0", "round") // longer ahead of t alone
	wantLines(t, set, 4, 2, api.OK, "delay 0 1 2", "round", "delay 1 0 1", "drop 0", "delay 0 1 1")
	wantLines(t, set, 4, 2, api.OK, "cut 0 1", "delay 0 1 3", "delay 0 1 2", "heal 0 1") // a cut path has its delay
	wantLines(t, set, 0, 0, api.ErrPremise, "cut 0 1", "delay 0 1 3", "heal 0 1")
	wantLines(t, set, 0, 0, api.ErrPremise, "delay 0 1 3", "split 0 1 2", "split 0 0 0")
	wantLines(t, set, 3, 2, api.OK, "delay 0 1 2", "split 0 1 2", "split 0 0 0")
	wantLines(t, []int{0, 1}, 1, 2, api.OK, "split 0 0 1", "delay 0 1 2", "delay 2 0 9", "delay 0 2 9")
	wantLines(t, []int{2}, 1, 1, api.OK, "split 0 0 1", "delay 0 2 5", "delay 2 0 5")

	long := api.Script{Config: with(config(2), func(c *api.Config) { c.Base, c.Cap = 20, 64 }), Events: events(2, "round", "delay 0 1 16")}
	wantPremise(t, "the longest delay", long, []int{0, 1}, 0, 16, api.OK)
	wantPremise(t, "the longest delay", api.Script{Config: config(2), Events: long.Events}, []int{0, 1}, 0, 0, api.ErrPremise)
}

// TestEventsBehind: 18.2: which events there must not be behind t, whether or not they do anything.
func TestEventsBehind(t *testing.T) {
	s := api.Script{Config: config(3)}
	split := api.Event{Kind: api.EvSplit, Sides: []int{0, 0, 1}}
	for kind := -1; kind <= 20; kind++ {
		for _, a := range []int{-1, 0, 1, 2, 3, 99} {
			for _, n := range []int{-1, 0, 1} {
				e := api.Event{Kind: kind, A: a, B: a, N: n}
				s.Events = slices.Concat([]api.Event{split}, rounds(2), []api.Event{e}, rounds(1))
				ofNode := slices.Contains([]int{api.EvTick, api.EvCrash, api.EvRestart, api.EvTear, api.EvLeave}, kind)
				ofPacket := kind >= api.EvDrop && kind <= api.EvInject
				inSet := a == 0 || a == 1
				switch {
				case inSet && (kind == api.EvCrash || kind == api.EvLeave || kind == api.EvTear && n >= 0):
					wantPremise(t, "events behind", s, []int{0, 1}, 0, 0, api.ErrPremise)
				case ofPacket || ofNode && inSet:
					wantPremise(t, "events behind", s, []int{0, 1}, 4, 1, api.OK)
				default:
					wantPremise(t, "events behind", s, []int{0, 1}, 1, 1, api.OK)
				}
			}
		}
	}
}

// TestIdleEvents: P18.5: events that do nothing in a play do nothing here.
func TestIdleEvents(t *testing.T) {
	for _, e := range []api.Event{
		{Kind: api.EvCut, A: 0, B: 0}, {Kind: api.EvCut, A: 0, B: 3}, {Kind: api.EvCut, A: -1, B: 1}, {Kind: api.EvCut, A: 3, B: 1},
		{Kind: api.EvDelay, A: 0, B: 1, N: 17}, {Kind: api.EvDelay, A: 0, B: 1}, {Kind: api.EvDelay, A: 0, B: 1, N: -16}, {Kind: api.EvDelay, A: 1, B: 1, N: 9}, {Kind: api.EvDelay, A: 0, B: 16, N: 9},
		{Kind: api.EvSplit}, {Kind: api.EvSplit, Sides: []int{0, 1}}, {Kind: api.EvSplit, Sides: []int{0, 1, 2, 3}}, {Kind: api.EvSplit, Sides: []int{0, 1, 16}}, {Kind: api.EvSplit, Sides: []int{-1, 0, 0}},
		{Kind: api.EvCrash, A: 3}, {Kind: api.EvCrash, A: -1}, {Kind: api.EvTear, A: 16, N: 1}, {Kind: api.EvLeave, A: 99}, {Kind: 19}, {Kind: -8, A: 0, B: 1},
		{Kind: api.EvSend, A: 0, Body: []byte("x")}, {Kind: api.EvDo, A: 1}, {Kind: api.EvNoop},
	} {
		s := api.Script{Config: config(3), Events: slices.Concat(rounds(1), []api.Event{e}, rounds(1))}
		wantPremise(t, "no event", s, all(3), 0, 1, api.OK)
		s.Events = append(events(3, "split 0 0 1"), s.Events...)
		wantPremise(t, "no event", s, []int{0, 1}, 1, 1, api.OK)
	}
	torn := api.Script{Config: config(2), Events: []api.Event{{Kind: api.EvTear, A: 1, N: -1}}}
	wantPremise(t, "a tear of less than nothing", torn, []int{0, 1}, 1, 1, api.OK)
}

// TestWrongPremises: P18.5: the errors, in their order.
func TestWrongPremises(t *testing.T) {
	apart := events(3, "cut 0 1")
	sets := [][]int{nil, {}, {1, 0}, {0, 0}, {0, 1, 1}, {2, 1}, {3}, {0, 3}, {-1}, {-1, 0}, {0, 1, 2, 3}, {0, 1, 2, 2}, {1, 2, 0}, make([]int, 100)}
	for _, n := range far() {
		sets = append(sets, []int{n}, []int{0, n}, []int{n, 0}, []int{0, n, 2})
	}
	many := rounds(api.MaxEvents + 1)
	for _, set := range append(sets, []int{0, 1}) {
		for _, c := range wrongConfigs() {
			wantPremise(t, "a wrong configuration", api.Script{Config: c, Events: apart}, set, 0, 0, api.ErrConfig)
		}
		wantPremise(t, "a wrong configuration", api.Script{Config: api.Config{}, Events: many}, set, 0, 0, api.ErrConfig)
		for _, floor := range []int{0, 1<<61 + 1} {
			c := with(config(3), func(c *api.Config) { c.Floor = floor })
			wantPremise(t, "too many events", api.Script{Config: c, Events: many}, set, 0, 0, api.ErrMany)
		}
	}
	for _, set := range sets {
		wantPremise(t, "no set", api.Script{Config: config(3), Events: apart}, set, 0, 0, api.ErrArg)
		wantPremise(t, "no set", api.Script{Config: config(3)}, set, 0, 0, api.ErrArg)
	}
	for floor, e := range map[int]api.Errno{1 << 61: api.OK, 1<<61 - 1: api.OK, 1<<61 + 1: api.ErrArg, api.MaxCount: api.ErrArg} {
		c := with(config(3), func(c *api.Config) { c.Floor = floor })
		delay := 1
		if e != api.OK {
			delay = 0
			wantPremise(t, "the Floor, apart", api.Script{Config: c, Events: apart}, all(3), 0, 0, e)
		}
		wantPremise(t, "the Floor", api.Script{Config: c}, all(3), 0, delay, e)
	}
	most := api.Script{Config: config(16), Events: many[1:]}
	wantPremise(t, "the most events", most, all(16), 0, 1, api.OK)
	most.Events = append(slices.Clone(many[2:]), api.Event{Kind: api.EvNow})
	wantPremise(t, "the most events", most, all(16), api.MaxEvents, 1, api.OK)
}

// strange are events that no text tells.
func strange(r *rand.Rand, e api.Event) api.Event {
	n := []*int{&e.Kind, &e.A, &e.B, &e.N}[r.Intn(4)]
	*n = slices.Concat(far(), []int{0, 1, 2, 3, 4, 5, 16, 17, api.MaxCount})[r.Intn(19)]
	if e.Kind == api.EvSplit {
		e.Sides = append(slices.Clone(e.Sides), far()[r.Intn(10)])[r.Intn(2):]
	}
	return e
}

// drawnScript is a short one, in which a set is often left alone at the end.
func drawnScript(r *rand.Rand) (api.Script, []int) {
	c := with(config(1+r.Intn(5)), func(c *api.Config) { c.Base = []int{1, 2, 5, 9}[r.Intn(4)] })
	st := &story{Rand: r, c: c, set: drawnSet(r, c.Nodes)}
	st.unrest(r.Intn(3))
	longest := c.Base
	if r.Intn(5) == 0 {
		longest++
	}
	if r.Intn(8) > 0 {
		st.settleDown(longest)
	}
	st.quiet(r.Intn(12), longest, load{often: 10, moves: 80})
	for r.Intn(3) == 0 {
		st.disturb()
	}
	for i := range st.l {
		if r.Intn(12) == 0 {
			st.l[i] = strange(r, st.l[i])
		}
	}
	return st.script(), st.set
}

// TestAsTheWords: P18.5: drawn scripts, held against the network of chapter 3 and the chapter's words.
func TestAsTheWords(t *testing.T) {
	ok, late, longer := 0, 0, 0
	for seed := range int64(6000) {
		r := rand.New(rand.NewSource(seed))
		s, set := drawnScript(r)
		if r.Intn(5) == 0 {
			set = drawnSet(r, s.Config.Nodes)
		}
		from, delay, is := premise(t, s, set, s.Config.Base)
		want := api.OK
		if !is {
			want = api.ErrPremise
		}
		if n, d, e := bound.Premise(s, set); n != from || d != delay || e != want {
			t.Fatalf("P18.5: seed %d: %d, %d, error %d, want %d, %d, error %d", seed, n, d, e, from, delay, want)
		}
		if is {
			ok++
			late += min(1, len(s.Events)-from)
			longer += min(1, delay-1)
		}
	}
	t.Log(ok, late, longer)
	if ok < 2000 || ok > 4500 || late < 1000 || longer < 500 {
		t.Errorf("%d sets were left alone, %d ahead of the end, %d with longer delays: the test is too weak", ok, late, longer)
	}
}

// TestLeftAloneFromThenOn: P18.5: from t on, and from no earlier event.
func TestLeftAloneFromThenOn(t *testing.T) {
	cut := 0
	for seed := range int64(300) {
		s, set := drawnScript(rand.New(rand.NewSource(9000 + seed)))
		from, _, e := bound.Premise(s, set)
		if e != api.OK {
			continue
		}
		for k := from; k <= len(s.Events); k++ {
			n, _, e := bound.Premise(api.Script{Config: s.Config, Events: s.Events[:k]}, set)
			if n != from || e != api.OK {
				t.Fatalf("P18.5: seed %d: the first %d events: %d, error %d, want %d", seed, k, n, e, from)
			}
			cut++
		}
	}
	if cut < 1000 {
		t.Errorf("%d beginnings: the test is too weak", cut)
	}
}

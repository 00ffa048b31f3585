package bound_test

import (
	"slices"
	"testing"

	"quorate/api"
	"quorate/ether"
)

// model is a script's network as the chapters 3 and 16 play it, without nodes.
type model struct {
	net  *ether.Net
	left map[int]struct{}
}

func modelOf(t testing.TB, c api.Config) *model {
	t.Helper()
	n, e := ether.New(c.Nodes, c.Room)
	if e != api.OK {
		t.Fatalf("no network: error %d", e)
	}
	return &model{n, map[int]struct{}{}}
}

// event plays what an event does to nodes and paths.
func (m *model) event(e api.Event) {
	switch e.Kind {
	case api.EvCrash:
		m.net.Crash(e.A)
	case api.EvTear:
		if e.N >= 0 {
			m.net.Crash(e.A)
		}
	case api.EvRestart:
		if _, no := m.net.Restart(e.A); no == api.OK {
			delete(m.left, e.A)
		}
	case api.EvLeave:
		if m.net.Up(e.A) {
			m.left[e.A] = struct{}{}
		}
	case api.EvCut, api.EvHeal, api.EvDelay, api.EvSplit:
		m.net.Do(e)
	}
}

// fits: the three points of 18.2, with a delay that is the greatest within the set (0: there is no path).
func (m *model) fits(nodes int, set []int, most int) (bool, int) {
	longest := 0
	for _, q := range set {
		if _, left := m.left[q]; left || !m.net.Up(q) {
			return false, 0
		}
		for p := range nodes {
			switch {
			case p == q:
			case !slices.Contains(set, p):
				if m.net.Open(p, q) {
					return false, 0
				}
			case !m.net.Open(p, q) || m.net.Delay(p, q) > most:
				return false, 0
			default:
				longest = max(longest, m.net.Delay(p, q))
			}
		}
	}
	return true, longest
}

// isBarred: the two points on the events behind t.
func isBarred(e api.Event, set []int) bool {
	ofNodes := []int{api.EvTick, api.EvCrash, api.EvRestart, api.EvTear, api.EvLeave}
	ofPackets := []int{api.EvDrop, api.EvDup, api.EvNow, api.EvHold, api.EvFlip, api.EvInject}
	return slices.Contains(ofNodes, e.Kind) && slices.Contains(set, e.A) || slices.Contains(ofPackets, e.Kind)
}

// premise is the least t from which on a set is left alone, with delays up to most, and the greatest delay; false: there is none.
func premise(t testing.TB, s api.Script, set []int, most int) (int, int, bool) {
	t.Helper()
	m := modelOf(t, s.Config)
	fit, longest := []bool{}, []int{}
	look := func() {
		ok, d := m.fits(s.Config.Nodes, set, most)
		fit, longest = append(fit, ok), append(longest, d)
	}
	look()
	for _, e := range s.Events {
		m.event(e)
		look()
	}
	for from := range fit {
		barred := slices.ContainsFunc(s.Events[from:], func(e api.Event) bool { return isBarred(e, set) })
		if !barred && !slices.Contains(fit[from:], false) {
			return from, max(1, slices.Max(longest[from:])), true
		}
	}
	return 0, 0, false
}

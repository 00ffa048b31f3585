package bound

import (
	"quorate/api"
	"quorate/script"
)

// greatestFloor leaves the epochs room for every script.
const greatestFloor = 1 << 61

// never: the set is not left alone as things stand.
const never = -1

// watch follows a script's network, and from when on a set of its nodes has been left alone.
type watch struct {
	network
	in    [api.MaxNodes]int // 1: the node is of the set
	base  int               // the greatest delay that is allowed within the set
	from  int
	delay int // the greatest one within the set since from
}

func newWatch(c api.Config, set []int) *watch {
	w := &watch{network: newNetwork(c.Nodes), base: c.Base, from: never}
	for _, p := range set {
		w.in[p] = 1
	}
	return w
}

// Premise tells from which event on a set of nodes is left alone up to the script's end, and the greatest delay among them.
func Premise(s api.Script, set []int) (int, int, api.Errno) {
	if e := checkPremise(s, set); e != api.OK {
		return 0, 0, e
	}
	w := newWatch(s.Config, set)
	w.look(0)
	for i := range s.Events {
		if w.disturbs(s.Events[i]) {
			w.from = never
		}
		w.happen(s.Events[i])
		w.look(i + 1)
	}
	if w.from == never {
		return 0, 0, api.ErrPremise
	}
	return w.from, w.delay, api.OK
}

// checkPremise says why nothing can be told of a script and a set.
func checkPremise(s api.Script, set []int) api.Errno {
	if e := script.CheckConfig(s.Config); e != api.OK {
		return e
	}
	if len(s.Events) > api.MaxEvents {
		return api.ErrMany
	}
	if !isSet(set, s.Config.Nodes) || s.Config.Floor > greatestFloor {
		return api.ErrArg
	}
	return api.OK
}

// isSet tells whether a list is rising, of one node or more.
func isSet(list []int, nodes int) bool {
	least := 0
	for _, p := range list {
		if !within(p, least, nodes-1) {
			return false
		}
		least = p + 1
	}
	return least > 0
}

// disturbs tells whether an event may touch the set or its packets, whether or not it does anything.
func (w *watch) disturbs(e api.Event) bool {
	switch e.Kind {
	case api.EvTick, api.EvCrash, api.EvRestart, api.EvTear, api.EvLeave:
		return w.isNode(e.A) && w.in[e.A] == 1
	case api.EvDrop, api.EvDup, api.EvNow, api.EvHold, api.EvFlip, api.EvInject:
		return true
	}
	return false
}

// look takes in how things stand behind the event number t.
func (w *watch) look(t int) {
	if !w.isAlone() {
		w.from = never
		return
	}
	if w.from == never {
		w.from, w.delay = t, firstDelay
	}
	w.delay = max(w.delay, w.longest())
}

// isAlone tells whether the set's nodes stand and its paths are as they must be.
func (w *watch) isAlone() bool {
	for q := range w.nodes {
		if w.in[q] == 0 {
			continue
		}
		if w.stands[q] != up {
			return false
		}
		for p := range w.nodes {
			if p != q && !w.isRight(p, q) {
				return false
			}
		}
	}
	return true
}

// isRight tells whether a path to a node of the set is as it must be: from one of the set open and short, from any other one cut.
func (w *watch) isRight(p, q int) bool {
	if w.in[p] == 1 {
		return within(w.paths[p][q], 1, w.base)
	}
	return w.paths[p][q] < 0
}

// longest is the greatest delay within the set.
func (w *watch) longest() int {
	longest := 0
	for p := range w.nodes {
		for q := range w.nodes {
			if p != q && w.in[p] == 1 && w.in[q] == 1 {
				longest = max(longest, w.paths[p][q])
			}
		}
	}
	return longest
}

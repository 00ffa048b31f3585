package world_test

import (
	"testing"

	"quorate/api"
	"quorate/machine"
)

// request names a command.
type request struct{ client, inc, req int }

func requestOf(c api.Command) request { return request{c.Client, c.Inc, c.Req} }

// deed is what was done at an index, in a view of which epoch first.
type deed struct {
	command api.Command
	result  api.Result
	epoch   int
}

// life is what the marks of an incarnation tell.
type life struct {
	epoch int // of its view
	base  int // how many entries it has done, or adopted as done; -1: not known yet
	asked map[request]int
}

// serviceWatch holds the marks of a trace against P9 and P10.
type serviceWatch struct {
	t        testing.TB
	machine  *machine.Machine // does the entries in their one order
	deeds    []deed
	at       map[request]int // the index at which a command was done
	lives    map[who]*life
	answered map[request]int
	holders  map[string]api.Holder // of each lock
}

func watchingService(t testing.TB) *serviceWatch {
	return &serviceWatch{t: t, machine: machine.New(), at: map[request]int{}, lives: map[who]*life{}, answered: map[request]int{}, holders: map[string]api.Holder{}}
}

func (w *serviceWatch) take(m api.Mark) {
	w.t.Helper()
	me := who{m.Node, m.Inc}
	l := w.lives[me]
	switch m.Kind {
	case api.MarkBoot:
		w.lives[me] = &life{base: -1, asked: map[request]int{}}
		if old := w.lives[who{m.Node, m.Inc - 1}]; old != nil {
			w.lives[me].epoch = old.epoch
		}
	case api.MarkInstall:
		l.epoch = m.ID.Epoch
	case api.MarkAdopt:
		w.adopt(l, m)
	case api.MarkDo:
		l.asked[requestOf(m.Cmd)]++
	case api.MarkApply:
		w.apply(l, m)
	case api.MarkReply:
		w.reply(l, m)
	}
}

// adopt: nothing is missing of what was done in views of lower epochs.
func (w *serviceWatch) adopt(l *life, m api.Mark) {
	w.t.Helper()
	for i, d := range w.deeds {
		if d.epoch < m.ID.Epoch && i+1 > m.N {
			w.t.Fatalf("P9: %d/%d adopts a log of %d entries in the epoch %d; entry %d was done in the epoch %d", m.Node, m.Inc, m.N, m.ID.Epoch, i+1, d.epoch)
		}
	}
	l.base = m.Pos
}

// apply: one command an index, one index a command, with the result that it has in the one order.
func (w *serviceWatch) apply(l *life, m api.Mark) {
	w.t.Helper()
	if l.base >= 0 && m.N != l.base+1 {
		w.t.Fatalf("P9: %d/%d does the entry %d behind %d", m.Node, m.Inc, m.N, l.base)
	}
	l.base = m.N
	if m.N == len(w.deeds)+1 {
		w.deeds = append(w.deeds, deed{m.Cmd, w.machine.Apply(m.Cmd), l.epoch})
		if at := w.at[requestOf(m.Cmd)]; at > 0 {
			w.t.Fatalf("P10: the command %+v is done at %d and at %d", m.Cmd, at, m.N)
		}
		w.at[requestOf(m.Cmd)] = m.N
		w.grants()
	}
	if m.N > len(w.deeds) || w.deeds[m.N-1].command != m.Cmd || w.deeds[m.N-1].result != m.Result {
		w.t.Fatalf("P9: %d/%d does %+v with %+v as entry %d of %d", m.Node, m.Inc, m.Cmd, m.Result, m.N, len(w.deeds))
	}
}

// grants: P10: each grant of a lock has a greater token than the one ahead of it.
func (w *serviceWatch) grants() {
	w.t.Helper()
	for _, name := range w.machine.Locks() {
		h, _ := w.machine.Holder(name)
		if old, is := w.holders[name]; is && h != old && h.Token <= old.Token {
			w.t.Fatalf("P10: the lock %q goes from %+v to %+v", name, old, h)
		}
		w.holders[name] = h
	}
}

// reply: what was asked here, was done, and was not answered yet.
func (w *serviceWatch) reply(l *life, m api.Mark) {
	w.t.Helper()
	r := requestOf(m.Cmd)
	at := w.at[r]
	if l.asked[r] != 1 || at == 0 || w.deeds[at-1].command != m.Cmd || w.deeds[at-1].result != m.Result {
		w.t.Fatalf("P9: %d/%d answers %+v with %+v; asked %d times, done at %d", m.Node, m.Inc, m.Cmd, m.Result, l.asked[r], at)
	}
	w.answered[r]++
	if w.answered[r] > 1 {
		w.t.Fatalf("P9: %d/%d answers %+v twice", m.Node, m.Inc, m.Cmd)
	}
}

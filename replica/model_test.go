package replica_test

import (
	"bytes"
	"encoding/binary"
	"slices"

	"quorate/api"
	"quorate/machine"
)

// placed is an entry of the model's tail.
type placed struct {
	cmd     api.Command
	pos     int
	adopted bool
}

// model is a replica in the chapter's words.
type model struct {
	c                    api.Config
	self, inc            int
	epoch, base, promise int
	snapshot             []byte
	tail                 []placed
	views                []api.View // all that were installed
	last, switchAt       int
	states               map[int]api.State
	mode                 int
	halted               bool
	requests             int
	pending              []api.Command // one at the most
	underWay, toSend     bool
	marks                []api.Mark
	records              []api.Record
}

func isCount(n int) bool { return n >= 0 && n <= 1<<62 }

// isState: 14.2.
func isState(s api.State) bool {
	_, e := machine.Restore(s.Snapshot)
	for _, c := range s.Tail {
		if machine.CheckCommand(c) != api.OK {
			return false
		}
	}
	return isCount(s.Epoch) && isCount(s.Base) && e == api.OK && len(s.Tail) <= 16 && s.Base+len(s.Tail) <= 1<<62
}

// lenient reads counts and lists in any form; that they were in their one form is seen when they are written again.
type lenient struct {
	b  []byte
	ok bool
}

func (l *lenient) count() int {
	n, size := binary.Uvarint(l.b)
	if size <= 0 || n > 1<<62 {
		l.ok, l.b = false, nil
		return 0
	}
	l.b = l.b[size:]
	return int(n)
}

func (l *lenient) list() []byte {
	n := l.count()
	if n > len(l.b) {
		l.ok, l.b = false, nil
		return nil
	}
	b := l.b[:n]
	l.b = l.b[n:]
	return bytes.Clone(b)
}

func (l *lenient) state() api.State {
	s := api.State{Epoch: l.count(), Base: l.count(), Snapshot: l.list()}
	for n := l.count(); n > 0 && l.ok; n-- {
		c, e := machine.DecodeCommand(l.list())
		l.ok = l.ok && e == api.OK
		s.Tail = append(s.Tail, c)
	}
	return s
}

// asState is the state of a state's blob.
func asState(b []byte) (api.State, bool) {
	if len(b) == 0 || b[0] != 1 {
		return api.State{}, false
	}
	l := &lenient{b[1:], true}
	s := l.state()
	return s, l.ok && isState(s) && bytes.Equal(stateBlob(s), b)
}

// asCommand is what a command's blob tells.
func asCommand(b []byte) (int, api.Command, bool) {
	if len(b) == 0 || b[0] != 2 {
		return 0, api.Command{}, false
	}
	l := &lenient{b[1:], true}
	n := l.count()
	c, e := machine.DecodeCommand(l.b)
	return n, c, l.ok && e == api.OK && bytes.Equal(commandBlob(n, c), b)
}

// asCount is the count of a RecSafe and of a RecPromise.
func asCount(b []byte) (int, bool) {
	l := &lenient{b, true}
	n := l.count()
	return n, l.ok && bytes.Equal(counts(n), b)
}

// asCheckpoint is what a RecState tells.
func asCheckpoint(b []byte) (int, api.State, bool) {
	l := &lenient{b, true}
	promise, s := l.count(), l.state()
	return promise, s, l.ok && isState(s) && bytes.Equal(recState(promise, s).Body, b)
}

// promiseOf: R1.
func promiseOf(l []api.Record) int {
	all := []int{0}
	for _, r := range l {
		switch r.Kind {
		case 1:
			if promise, s, ok := asCheckpoint(r.Body); ok {
				all = append(all, promise, s.Epoch)
			}
		case 4:
			if n, ok := asCount(r.Body); ok {
				all = append(all, n)
			}
		}
	}
	return slices.Max(all)
}

// isConfig: DOC.md, "A configuration".
func isConfig(c api.Config) bool {
	sum := 0
	for _, v := range c.Votes {
		if v < 0 || v > 9 {
			return false
		}
		sum += v
	}
	return c.Nodes >= 1 && c.Nodes <= 16 && c.Window >= 1 && c.Window <= 8 && c.Cap >= 1 && c.Cap <= 64 && c.Base >= 1 && c.Base <= c.Cap &&
		c.Step >= 1 && c.Step <= c.Cap && c.Room >= 1 && c.Room <= 20000 && c.Floor >= 0 && c.Floor <= 1<<62 && len(c.Votes) == c.Nodes && sum > 0
}

// newModel: R2.
func newModel(c api.Config, self, inc int, l []api.Record) (*model, api.Errno) {
	if !isConfig(c) || self < 0 || self >= c.Nodes || inc < 1 || inc > 1<<62 {
		return nil, api.ErrArg
	}
	m := &model{c: c, self: self, inc: inc, snapshot: machine.New().Snapshot()}
	for _, r := range l {
		if !m.replay(r) {
			return nil, api.ErrRecord
		}
	}
	m.records = nil
	return m, api.OK
}

func (m *model) replay(r api.Record) bool {
	switch r.Kind {
	case 1:
		promise, s, ok := asCheckpoint(r.Body)
		if !ok {
			return false
		}
		m.promise = max(m.promise, promise)
		m.setLog(s.Epoch, s.Base, s.Snapshot, s.Tail, 0)
		m.marks = nil
		return true
	case 2:
		c, e := machine.DecodeCommand(r.Body)
		if e != api.OK || len(m.tail) == 16 || m.length() == 1<<62 {
			return false
		}
		m.tail = append(m.tail, placed{cmd: c})
		return true
	case 3:
		n, ok := asCount(r.Body)
		if !ok || n < m.base || n > m.length() {
			return false
		}
		m.doUpTo(n)
		return true
	case 4:
		n, ok := asCount(r.Body)
		m.promise = max(m.promise, n)
		return ok
	}
	return false
}

func (m *model) length() int { return m.base + len(m.tail) }

func (m *model) setLog(epoch, base int, snapshot []byte, tail []api.Command, pos int) {
	m.epoch, m.base, m.snapshot, m.tail = epoch, base, snapshot, nil
	for _, c := range tail {
		m.tail = append(m.tail, placed{c, pos, true})
	}
}

func (m *model) commands() []api.Command {
	var l []api.Command
	for _, p := range m.tail {
		l = append(l, p.cmd)
	}
	return l
}

func (m *model) state() api.State {
	return api.State{Epoch: m.epoch, Base: m.base, Snapshot: m.snapshot, Tail: m.commands()}
}

// doUpTo: 14.6.
func (m *model) doUpTo(index int) {
	before := m.base
	for m.base < index && len(m.tail) > 0 {
		c := m.tail[0].cmd
		m.tail = m.tail[1:]
		m.base++
		x, _ := machine.Restore(m.snapshot)
		result := x.Apply(c)
		m.snapshot = x.Snapshot()
		m.marks = append(m.marks, apply(m.base, c, result))
		if len(m.pending) > 0 && c.Client == m.self && c.Inc == m.inc && c.Req == m.pending[0].Req {
			m.marks = append(m.marks, reply(c, result))
			m.pending = nil
		}
	}
	if m.base > before {
		m.records = append(m.records, recSafe(m.base))
	}
}

// take: R3.
func (m *model) take(n api.Note) api.Errno {
	if m.halted {
		return api.ErrHalted
	}
	switch n.Kind {
	case 1:
		return api.OK
	case 2:
		return m.install(n.View)
	case 3:
		return m.deliver(n)
	case 4:
		return m.safe(n.Pos)
	case 5:
		m.halted, m.mode = true, 0
		return api.OK
	}
	return api.ErrNote
}

func (m *model) isView(v api.View) bool {
	ahead := -1
	for _, x := range v.Members {
		if x.Pid <= ahead || x.Pid >= m.c.Nodes || x.Inc < 1 || x.Inc > 1<<62 || x.Cid < 1 || x.Cid > 1<<62 {
			return false
		}
		ahead = x.Pid
	}
	if len(v.Members) == 0 {
		return false
	}
	x := v.Members[0]
	return v.ID.Epoch >= 1 && v.ID.Epoch <= 1<<62 && v.ID.Lead == x.Pid && v.ID.Inc == x.Inc && v.ID.Cid == x.Cid
}

func (m *model) install(v api.View) api.Errno {
	mine, weight, total, first := false, 0, 0, -1
	for p, n := range m.c.Votes {
		total += n
		if n > 0 && first < 0 {
			first = p
		}
	}
	hasFirst := false
	for _, x := range v.Members {
		mine = mine || x.Pid == m.self && x.Inc == m.inc
		hasFirst = hasFirst || x.Pid == first
	}
	if !m.isView(v) || !mine || len(m.views) > 0 && v.ID.Epoch <= m.view().ID.Epoch {
		return api.ErrNote
	}
	for _, x := range v.Members {
		weight += m.c.Votes[x.Pid]
	}
	v.Members = slices.Clone(v.Members)
	m.views = append(m.views, v)
	m.last, m.switchAt, m.states, m.underWay = 0, 0, map[int]api.State{}, false
	if 2*weight < total || 2*weight == total && !hasFirst {
		m.mode, m.toSend = 0, false
		return api.OK
	}
	m.mode, m.toSend = 1, true
	if v.ID.Epoch > m.promise {
		m.promise = v.ID.Epoch
		m.records = append(m.records, recPromise(m.promise))
	}
	return api.OK
}

func (m *model) view() api.View { return m.views[len(m.views)-1] }

func (m *model) deliver(n api.Note) api.Errno {
	if len(m.views) == 0 {
		return api.ErrNote
	}
	at := slices.IndexFunc(m.view().Members, func(x api.Member) bool { return x.Pid == n.Sender })
	if at < 0 || n.Pos < 1 || n.Pos > 1<<62 || n.Pos <= m.last || m.mode == 0 {
		return api.ErrNote
	}
	if s, ok := asState(n.Body); ok {
		return m.takeState(n, s)
	}
	known, c, ok := asCommand(n.Body)
	if !ok {
		return api.ErrState
	}
	switch {
	case m.mode == 1:
		return api.ErrNote
	case c.Client != n.Sender, c.Inc != m.view().Members[at].Inc, known > m.length():
		return api.ErrState
	case m.length()-max(known, m.base) >= 16, m.length() == 1<<62:
		return api.ErrNote
	}
	m.last = n.Pos
	m.doUpTo(known)
	m.tail = append(m.tail, placed{cmd: c, pos: n.Pos})
	m.records = append(m.records, recAppend(c))
	return api.OK
}

func (m *model) takeState(n api.Note, s api.State) api.Errno {
	if _, here := m.states[n.Sender]; here || m.mode != 1 {
		return api.ErrNote
	}
	if s.Epoch >= m.view().ID.Epoch {
		return api.ErrState
	}
	m.last = n.Pos
	m.states[n.Sender] = s
	if len(m.states) == len(m.view().Members) {
		m.switchTo(n.Pos)
	}
	return api.OK
}

// switchTo: R4.
func (m *model) switchTo(pos int) {
	var pids []int
	for p := range m.states {
		pids = append(pids, p)
	}
	slices.Sort(pids)
	length := func(s api.State) int { return s.Base + len(s.Tail) }
	best, furthest := m.states[pids[0]], m.states[pids[0]]
	for _, p := range pids {
		s := m.states[p]
		if s.Epoch > best.Epoch || s.Epoch == best.Epoch && length(s) > length(best) {
			best = s
		}
		if s.Base > furthest.Base {
			furthest = s
		}
	}
	var tail []api.Command
	for i, c := range best.Tail {
		if best.Base+1+i > furthest.Base {
			tail = append(tail, c)
		}
	}
	m.setLog(m.view().ID.Epoch, furthest.Base, furthest.Snapshot, tail, pos)
	m.mode, m.switchAt = 2, pos
	m.records = append(m.records, recState(m.promise, m.state()))
	m.marks = append(m.marks, adopt(m.view().ID, m.length(), m.base))
	x, _ := machine.Restore(m.snapshot)
	if s, ok := x.Session(m.self); ok && len(m.pending) > 0 && s.Inc == m.inc && s.Req == m.pending[0].Req {
		m.marks = append(m.marks, reply(m.pending[0], s.Last))
		m.pending = nil
	}
}

func (m *model) safe(pos int) api.Errno {
	if len(m.views) == 0 || pos < 1 || pos > 1<<62 {
		return api.ErrNote
	}
	if m.mode < 2 || pos < m.switchAt {
		return api.OK
	}
	m.mode = 3
	index := m.base
	for _, p := range m.tail {
		if p.adopted || p.pos <= pos {
			index++
		}
	}
	m.doUpTo(index)
	return api.OK
}

// submit: R5.
func (m *model) submit(c api.Command) (int, api.Errno) {
	c.Client, c.Inc, c.Req = m.self, m.inc, m.requests+1
	switch {
	case m.halted:
		return 0, api.ErrHalted
	case machine.CheckCommand(c) != api.OK:
		return 0, api.ErrCommand
	case m.mode != 3:
		return 0, api.ErrIdle
	case len(m.pending) > 0:
		return 0, api.ErrPending
	}
	m.requests++
	m.pending, m.underWay = []api.Command{c}, false
	return m.requests, api.OK
}

// next: R6.
func (m *model) next() ([]byte, bool) {
	switch {
	case m.halted:
	case m.toSend:
		return stateBlob(m.state()), true
	case m.mode == 3 && len(m.pending) > 0 && !m.underWay:
		return commandBlob(m.base, m.pending[0]), true
	}
	return nil, false
}

// sent: R7.
func (m *model) sent() {
	if b, ok := m.next(); ok && b[0] == 1 {
		m.toSend = false
	} else if ok {
		m.underWay = true
	}
}

// face: R9.
func (m *model) face() face {
	x, _ := machine.Restore(m.snapshot)
	f := face{log: m.commands(), snapshot: m.snapshot, pairs: x.Pairs(), checkpoint: recState(m.promise, m.state())}
	f.status = api.Status{Mode: m.mode, Promise: m.promise, Epoch: m.epoch, Base: m.base, Length: m.length(), Pending: len(m.pending)}
	f.next, f.hasNext = m.next()
	return f
}

package machine

import (
	"bytes"
	"slices"

	"quorate/api"
)

// mark stands at the front of every snapshot: two letters and the version.
const mark = "QS\x01"

// Snapshot makes the bytes of the whole state.
func (m *Machine) Snapshot() []byte {
	w := writer{bytes: []byte(mark)}
	w.counts(m.tokens, len(m.pairs))
	for _, p := range m.Pairs() {
		w.texts(p.Key, p.Val)
	}
	w.counts(len(m.locks))
	for _, name := range rising(m.locks) {
		l := m.locks[name]
		w.texts(name)
		w.counts(l.holder, l.token, len(l.queue))
		w.counts(l.queue...)
	}
	m.writeSessions(&w)
	return append(w.bytes, sumOf(w.bytes)...)
}

func (m *Machine) writeSessions(w *writer) {
	var clients []int
	for client := range m.sessions {
		if m.hasSession(client) {
			clients = append(clients, client)
		}
	}
	w.counts(len(clients))
	for _, client := range clients {
		s := m.sessions[client]
		w.counts(client, s.Inc, s.Req, s.Last.Code)
		w.texts(s.Last.Val)
		w.counts(s.Last.N)
	}
}

// Restore makes the machine whose snapshot it is.
func Restore(b []byte) (m *Machine, e api.Errno) {
	defer func() {
		if recover() != nil {
			m, e = nil, api.ErrSnapshot
		}
	}()
	r := reader{bytes: b}
	r.unseal()
	need(r.take(len(mark)) == mark)
	m = New()
	m.tokens = r.count(0, api.MaxToken)
	r.pairs(m)
	r.locks(m)
	r.sessions(m)
	r.end()
	need(m.knowsAll())
	return m, api.OK
}

// unseal leaves the sum out of what is read, if it is the right one.
func (r *reader) unseal() {
	size := len(r.bytes) - sumSize
	need(size >= 0 && bytes.Equal(sumOf(r.bytes[:size]), r.bytes[size:]))
	r.bytes = r.bytes[:size]
}

// nameBehind reads a key, or a lock's name, that is above the one ahead of it; the empty one is ahead of all.
func (r *reader) nameBehind(ahead string) string {
	name := r.text(1, api.MaxKey)
	need(name > ahead)
	return name
}

func (r *reader) pairs(m *Machine) {
	key := ""
	for range r.count(0, api.MaxKeys) {
		key = r.nameBehind(key)
		m.put(key, r.text(0, api.MaxVal))
	}
}

func (r *reader) locks(m *Machine) {
	name := ""
	for range r.count(0, api.MaxLocks) {
		name = r.nameBehind(name)
		l := lock{holder: r.client(), token: r.count(1, m.tokens)}
		for _, other := range m.locks {
			need(other.token != l.token)
		}
		for range r.count(0, api.MaxNodes-1) {
			client := r.client()
			need(client != l.holder && !slices.Contains(l.queue, client))
			l.queue = append(l.queue, client)
		}
		m.locks[name] = l
	}
}

func (r *reader) sessions(m *Machine) {
	client := -1
	for range r.count(0, api.MaxNodes) {
		client = r.count(client+1, api.MaxNodes-1)
		s := api.Session{Inc: r.count(1, api.MaxCount), Req: r.count(1, api.MaxCount)}
		s.Last = api.Result{Code: r.count(api.ResDone, api.ResSpent), Val: r.text(0, api.MaxVal), N: r.count(0, api.MaxToken)}
		need(s.Last.Code != api.ResBad)
		m.sessions[client] = s
	}
}

// knowsAll tells whether everybody who holds a lock or waits for one has a session.
func (m *Machine) knowsAll() bool {
	isStranger := func(client int) bool { return !m.hasSession(client) }
	for _, l := range m.locks {
		if isStranger(l.holder) || slices.ContainsFunc(l.queue, isStranger) {
			return false
		}
	}
	return true
}

package machine

import (
	"slices"

	"quorate/api"
)

// lock is one that is held. Under which incarnation its clients hold it and wait for it, their sessions tell.
type lock struct {
	holder, token int
	queue         []int
}

// grant gives a lock to a client, and tells the token.
func (m *Machine) grant(name string, client int, queue []int) int {
	m.tokens++
	m.locks[name] = lock{holder: client, token: m.tokens, queue: queue}
	return m.tokens
}

// passOn gives a lock to the first who waits for it, and tells the token; 0: the lock is gone.
func (m *Machine) passOn(name string) int {
	queue := m.locks[name].queue
	if len(queue) == 0 || m.tokens == api.MaxToken {
		delete(m.locks, name)
		return 0
	}
	return m.grant(name, queue[0], queue[1:])
}

// join puts a client at the end of a lock's queue, if it is not in it, and tells its place from 1 on.
func (m *Machine) join(name string, client int) int {
	l := m.locks[name]
	if at := slices.Index(l.queue, client); at >= 0 {
		return at + 1
	}
	l.queue = append(l.queue, client)
	m.locks[name] = l
	return len(l.queue)
}

// leave takes a client out of a lock's queue, and tells whether it was in it.
func (m *Machine) leave(name string, client int) bool {
	l := m.locks[name]
	at := slices.Index(l.queue, client)
	if at < 0 {
		return false
	}
	l.queue = slices.Delete(l.queue, at, at+1)
	m.locks[name] = l
	return true
}

// release takes a client out of all queues, then passes on what it holds, and tells how many locks those were.
func (m *Machine) release(client int) int {
	names := rising(m.locks)
	for _, name := range names {
		m.leave(name, client)
	}
	held := 0
	for _, name := range names {
		if m.locks[name].holder == client {
			m.passOn(name)
			held++
		}
	}
	return held
}

func acquire(m *Machine, c api.Command) api.Result {
	l, isHeld := m.locks[c.Key]
	switch {
	case isHeld && l.holder == c.Client:
		return api.Result{Code: api.ResDone, N: l.token}
	case isHeld:
		return api.Result{Code: api.ResQueued, N: m.join(c.Key, c.Client)}
	case len(m.locks) == api.MaxLocks:
		return api.Result{Code: api.ResFull}
	case m.tokens == api.MaxToken:
		return api.Result{Code: api.ResSpent}
	}
	return api.Result{Code: api.ResDone, N: m.grant(c.Key, c.Client, nil)}
}

func unlock(m *Machine, c api.Command) api.Result {
	l, isHeld := m.locks[c.Key]
	switch {
	case isHeld && l.holder == c.Client:
		return api.Result{Code: api.ResDone, N: m.passOn(c.Key)}
	case m.leave(c.Key, c.Client):
		return api.Result{Code: api.ResLeft}
	}
	return api.Result{Code: api.ResNone}
}

func fence(m *Machine, c api.Command) api.Result {
	l, isHeld := m.locks[c.Key]
	token, _ := numberOf(c.Val)
	switch {
	case !isHeld:
		return api.Result{Code: api.ResNone}
	case l.token != token:
		return api.Result{Code: api.ResStale, N: l.token}
	}
	return api.Result{Code: api.ResDone, N: token}
}

func end(m *Machine, c api.Command) api.Result {
	client, _ := numberOf(c.Val)
	if !m.hasSession(client) {
		return api.Result{Code: api.ResNone}
	}
	return api.Result{Code: api.ResDone, N: m.release(client)}
}

package machine

import (
	"strconv"

	"quorate/api"
)

// telling is a result with the value of a key that there is, or was.
func telling(code int, value string) api.Result {
	return api.Result{Code: code, Val: value, N: 1}
}

// put gives a key its value.
func (m *Machine) put(key, value string) { m.pairs[key] = api.Pair{Key: key, Val: value} }

// isFull tells whether there is no room for one more key.
func (m *Machine) isFull() bool { return len(m.pairs) == api.MaxKeys }

func set(m *Machine, c api.Command) api.Result {
	p, ok := m.pairs[c.Key]
	if !ok && m.isFull() {
		return api.Result{Code: api.ResFull}
	}
	m.put(c.Key, c.Val)
	if !ok {
		return api.Result{Code: api.ResDone}
	}
	return telling(api.ResDone, p.Val)
}

func get(m *Machine, c api.Command) api.Result {
	p, ok := m.pairs[c.Key]
	if !ok {
		return api.Result{Code: api.ResNone}
	}
	return telling(api.ResDone, p.Val)
}

func cas(m *Machine, c api.Command) api.Result {
	p, ok := m.pairs[c.Key]
	switch {
	case !ok:
		return api.Result{Code: api.ResNone}
	case p.Val != c.Old:
		return telling(api.ResDiffer, p.Val)
	}
	m.put(c.Key, c.Val)
	return telling(api.ResDone, p.Val)
}

func del(m *Machine, c api.Command) api.Result {
	p, ok := m.pairs[c.Key]
	if !ok {
		return api.Result{Code: api.ResNone}
	}
	delete(m.pairs, c.Key)
	return telling(api.ResDone, p.Val)
}

func add(m *Machine, c api.Command) api.Result {
	p, ok := m.pairs[c.Key]
	if !ok && m.isFull() {
		return api.Result{Code: api.ResFull}
	}
	if !ok {
		m.put(c.Key, c.Val)
		return api.Result{Code: api.ResDone, Val: c.Val}
	}
	return m.sum(p, c.Val)
}

// sum adds to the value of a key that there is.
func (m *Machine) sum(p api.Pair, val string) api.Result {
	n, ok := numberOf(p.Val)
	if !ok {
		return telling(api.ResNumber, p.Val)
	}
	more, _ := numberOf(val)
	text := strconv.Itoa(n + more)
	if !isNumber(text) { // it is too long just where the sum is out of range
		return telling(api.ResOver, p.Val)
	}
	m.put(p.Key, text)
	return telling(api.ResDone, text)
}

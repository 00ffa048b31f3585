package audit

import (
	"strings"

	"quorate/api"
)

// entry is what the first MarkApply of an index tells.
type entry struct {
	command api.Command
	result  api.Result
}

func entryOf(m api.Mark) entry { return entry{m.Cmd, m.Result} }

// history is the log, as far as the marks tell it.
type history struct {
	entries map[int]entry // by index
	length  int           // how many were given by next
}

func newHistory() history { return history{entries: map[int]entry{}} }

// add takes in a MarkApply, if it is the first of its index.
func (h *history) add(m api.Mark) {
	if _, is := h.entries[m.N]; !is {
		h.entries[m.N] = entryOf(m)
	}
}

// next gives the entry behind those that it gave before; false: there is none yet.
func (h *history) next() (entry, bool) {
	e, is := h.entries[h.length+1]
	if is {
		h.length++
	}
	return e, is
}

// copied is a command with texts of its own.
func copied(c api.Command) api.Command {
	c.Key, c.Val, c.Old = strings.Clone(c.Key), strings.Clone(c.Val), strings.Clone(c.Old)
	return c
}

package replica

import (
	"slices"

	"quorate/api"
	"quorate/machine"
)

// log is a node's entries. Of the first of them, those that are done, just what they came to is kept.
type log struct {
	epoch   int // of the view in which it was adopted last
	base    int // how many entries are done
	machine *machine.Machine
	tail    []entry // the entries behind the base
}

// entry is one that is not done yet.
type entry struct {
	command  api.Command
	position int // where it was delivered in the present view; 0, if it was adopted: it is safe when the switch is
}

// length is how many entries there are.
func (l *log) length() int { return l.base + len(l.tail) }

// hasRoom tells whether one more entry can be appended, once those up to an index are done.
func (l *log) hasRoom(safe int) bool {
	return l.length()-max(safe, l.base) < api.MaxNodes && l.length() < api.MaxCount
}

// above are the entries with greater indices than one that is not below the base.
func (l *log) above(index int) []entry { return l.tail[min(index-l.base, len(l.tail)):] }

// request names a command.
type request struct {
	client, inc, req int
}

func requestOf(c api.Command) request { return request{c.Client, c.Inc, c.Req} }

// do does the first entries of the tail.
func (r *Replica) do(count int) {
	for _, e := range r.log.tail[:count] {
		r.log.base++
		result := r.log.machine.Apply(e.command)
		r.tell(api.Mark{Kind: api.MarkApply, N: r.log.base, Cmd: e.command, Result: result})
		if requestOf(e.command) == requestOf(r.pending) {
			r.reply(e.command, result)
		}
	}
	r.log.tail = slices.Delete(r.log.tail, 0, count)
}

// doSafe does the first entries of the tail, and has it written that they are safe.
func (r *Replica) doSafe(count int) {
	if count > 0 {
		r.do(count)
		r.write(api.RecSafe, putCounts(nil, r.log.base))
	}
}

// reply answers the pending command.
func (r *Replica) reply(c api.Command, result api.Result) {
	r.tell(api.Mark{Kind: api.MarkReply, Cmd: c, Result: result})
	r.pending = api.Command{}
}

func (r *Replica) tell(m api.Mark) { r.marks = append(r.marks, m) }

func (r *Replica) write(kind int, body []byte) {
	r.records = append(r.records, api.Record{Kind: kind, Body: body})
}

package replica

import (
	"quorate/api"
	"quorate/machine"
	"quorate/wire"
)

// What a blob begins with.
const (
	stateBlob   = 1
	commandBlob = 2
)

// putCounts appends counts to bytes.
func putCounts(b []byte, counts ...int) []byte {
	for _, n := range counts {
		b, _ = wire.PutInt(b, n) // what a replica holds can be written
	}
	return b
}

// putList appends a list of bytes, its length ahead of it.
func putList(b, list []byte) []byte { return append(putCounts(b, len(list)), list...) }

// putLog appends a log, as a state and a checkpoint tell it.
func putLog(b []byte, l log) []byte {
	b = putCounts(b, l.epoch, l.base)
	b = putList(b, l.machine.Snapshot())
	b = putCounts(b, len(l.tail))
	for _, e := range l.tail {
		b = putList(b, textOf(e.command))
	}
	return b
}

// textOf is a command's text.
func textOf(c api.Command) []byte {
	b, _ := machine.EncodeCommand(c) // what a replica holds is valid
	return b
}

// reader reads bytes. The first thing that is amiss is its error; what is read from there on is zero.
type reader struct {
	bytes  []byte
	at     int
	reason error // why bytes are refused in which something is amiss
	err    error
}

// need keeps as the error what is amiss, if it is the first thing.
func (r *reader) need(ok bool, amiss string) {
	if !ok && r.err == nil {
		r.err = refusal{amiss, r.reason}
	}
}

// count reads a count up to a greatest one.
func (r *reader) count(greatest int) int {
	n, next, e := wire.TakeInt(r.bytes, r.at)
	r.need(e == api.OK && n <= greatest, "no count that can stand here")
	if r.err != nil {
		return 0
	}
	r.at = next
	return n
}

func (r *reader) anyCount() int { return r.count(api.MaxCount) }

// take cuts out so many bytes; whoever is handed them copies what it keeps.
func (r *reader) take(size int) []byte {
	r.need(len(r.bytes)-r.at >= size, "bytes that are not all there")
	if r.err != nil {
		return nil
	}
	r.at += size
	return r.bytes[r.at-size : r.at]
}

// list reads a list of bytes, its length ahead of it.
func (r *reader) list() []byte { return r.take(r.anyCount()) }

// rest reads all that is left.
func (r *reader) rest() []byte { return r.take(len(r.bytes) - r.at) }

// command reads the command whose text these bytes are.
func (r *reader) command(text []byte) api.Command {
	c, e := machine.DecodeCommand(text)
	r.need(e == api.OK, "no command's text")
	return c
}

// log reads a log, as putLog writes it.
func (r *reader) log() log {
	l := log{epoch: r.anyCount(), base: r.anyCount()}
	m, e := machine.Restore(r.list())
	r.need(e == api.OK, "no snapshot")
	l.machine = m
	for range r.count(api.MaxNodes) {
		l.tail = append(l.tail, entry{command: r.command(r.list())})
	}
	r.need(l.length() <= api.MaxCount, "more entries than there can be")
	return l
}

// end is the error of all that was read; there must be nothing left.
func (r *reader) end() error {
	r.need(r.at == len(r.bytes), "bytes that are left over")
	return r.err
}

// content is what a record tells, or a blob: the parts that its kind has.
type content struct {
	count   int // a RecState's and a RecPromise's promise, a RecSafe's base; how far a blob's sender knows the log safe
	log     log
	command api.Command
}

// readBlob reads a blob and its kind; whatever is amiss is a refusal for ErrState.
func readBlob(body []byte) (int, content, error) {
	r := reader{bytes: body, reason: api.ErrState}
	var told content
	kind := r.count(commandBlob) // so small a count is one byte
	switch kind {
	case stateBlob:
		told.log = r.log()
	case commandBlob:
		told.count = r.anyCount()
		told.command = r.command(r.rest())
	default:
		r.need(false, "a blob of no kind")
	}
	return kind, told, r.end()
}

// readRecord reads a record; whatever is amiss is a refusal for ErrRecord.
func readRecord(record api.Record) (content, error) {
	r := reader{bytes: record.Body, reason: api.ErrRecord}
	var told content
	switch record.Kind {
	case api.RecState:
		told.count = r.anyCount()
		told.log = r.log()
	case api.RecAppend:
		told.command = r.command(r.rest())
	case api.RecSafe, api.RecPromise:
		told.count = r.anyCount()
	default:
		r.need(false, "a record of no kind")
	}
	return told, r.end()
}

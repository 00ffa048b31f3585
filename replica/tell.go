package replica

import "quorate/api"

// Marks takes out what is to be told in the trace (MarkAdopt, MarkApply, MarkReply).
func (r *Replica) Marks() []api.Mark {
	l := r.marks
	r.marks = nil
	return l
}

// Records takes out what is to be written into the journal.
func (r *Replica) Records() []api.Record {
	l := r.records
	r.records = nil
	return l
}

// Checkpoint is the record that holds the whole present state.
func (r *Replica) Checkpoint() api.Record {
	return api.Record{Kind: api.RecState, Body: putLog(putCounts(nil, r.promise), r.log)}
}

// Status tells how it stands.
func (r *Replica) Status() api.Status {
	s := api.Status{Mode: r.mode, Promise: r.promise, Epoch: r.log.epoch, Base: r.log.base, Length: r.log.length()}
	if r.hasPending() {
		s.Pending = 1
	}
	return s
}

// Log lists the entries behind the safe ones.
func (r *Replica) Log() []api.Command {
	var l []api.Command
	for _, e := range r.log.tail {
		l = append(l, e.command)
	}
	return l
}

// Snapshot makes the bytes of the machine's state.
func (r *Replica) Snapshot() []byte { return r.log.machine.Snapshot() }

// Pairs lists the machine's keys and values, by rising key.
func (r *Replica) Pairs() []api.Pair { return r.log.machine.Pairs() }

package replica

import (
	"strings"

	"quorate/api"
	"quorate/machine"
)

// Submit takes a command of this node's client (Op, Key, Val, Old count): the number of the request.
func (r *Replica) Submit(c api.Command) (int, api.Errno) {
	c.Client, c.Inc, c.Req = r.self, r.inc, r.requests+1
	switch {
	case r.halted:
		return 0, api.ErrHalted
	case machine.CheckCommand(c) != api.OK:
		return 0, api.ErrCommand
	case r.mode != api.ModeActive:
		return 0, api.ErrIdle
	case r.hasPending():
		return 0, api.ErrPending
	}
	c.Key, c.Val, c.Old = strings.Clone(c.Key), strings.Clone(c.Val), strings.Clone(c.Old)
	r.requests++
	r.pending, r.underWay = c, false
	return c.Req, api.OK
}

func (r *Replica) hasPending() bool { return r.pending.Req > 0 }

// sendsState tells whether the own state is what is to be sent next.
func (r *Replica) sendsState() bool { return r.owing && !r.halted }

// sendsCommand tells whether the pending command is to be sent, once the own state is not; behind a halt the mode is Idle.
func (r *Replica) sendsCommand() bool {
	return r.mode == api.ModeActive && r.hasPending() && !r.underWay
}

// Next is the blob that is to be sent next; false: none.
func (r *Replica) Next() ([]byte, bool) {
	switch {
	case r.sendsState():
		return putLog([]byte{stateBlob}, r.log), true
	case r.sendsCommand():
		return append(putCounts([]byte{commandBlob}, r.log.base), textOf(r.pending)...), true
	}
	return nil, false
}

// Sent tells that the group has taken what Next told.
func (r *Replica) Sent() {
	switch {
	case r.sendsState():
		r.owing = false
	case r.sendsCommand():
		r.underWay = true
	}
}

package replica

import (
	"slices"

	"quorate/api"
	"quorate/quorum"
)

// Take takes a note of the group (a NoteDeliver's body without the node's first byte).
func (r *Replica) Take(n api.Note) api.Errno { return numberOf(r.take(n)) }

func (r *Replica) take(n api.Note) error {
	if r.halted {
		return refusal{"a note behind a halt", api.ErrHalted}
	}
	switch n.Kind {
	case api.NoteBlock:
		return nil // what is delivered up to the next install belongs to the old view still
	case api.NoteHalt:
		r.halted, r.mode = true, api.ModeIdle
		return nil
	case api.NoteInstall:
		return r.install(n.View)
	case api.NoteDeliver:
		return r.deliver(n)
	case api.NoteSafe:
		return r.passSafe(n.Pos)
	}
	return refusal{"a note of no kind", api.ErrNote}
}

func (r *Replica) install(v api.View) error {
	isSelf := func(m api.Member) bool { return m.Pid == r.self && m.Inc == r.inc }
	if !slices.ContainsFunc(v.Members, isSelf) {
		return refusal{"a view without this node", api.ErrNote}
	}
	isQuorate, e := r.watch.Enter(v)
	if e != api.OK {
		return refusal{"no view, or not a later one", api.ErrNote}
	}
	v.Members = slices.Clone(v.Members)
	r.stay = stay{view: v, mode: api.ModeIdle}
	if isQuorate {
		r.join()
	}
	return nil
}

// join begins a quorate view: the promise is to be written ahead of the own state's going out.
func (r *Replica) join() {
	r.mode, r.owing, r.states = api.ModeJoining, true, map[int]log{}
	if epoch := r.view.ID.Epoch; epoch > r.promise {
		r.promise = epoch
		r.write(api.RecPromise, putCounts(nil, epoch))
	}
}

func (r *Replica) deliver(n api.Note) error {
	isSender := func(m api.Member) bool { return m.Pid == n.Sender }
	at := slices.IndexFunc(r.view.Members, isSender)
	if r.mode == api.ModeIdle || at < 0 || !within(n.Pos, r.last+1, api.MaxCount) {
		return refusal{"a delivery that cannot come now", api.ErrNote}
	}
	kind, told, err := readBlob(n.Body)
	if err != nil {
		return err
	}
	if kind == stateBlob {
		return r.takeState(n, told.log)
	}
	return r.takeCommand(n, r.view.Members[at], told)
}

func (r *Replica) takeState(n api.Note, state log) error {
	if _, isHere := r.states[n.Sender]; isHere || r.mode != api.ModeJoining {
		return refusal{"a state that is not missing", api.ErrNote}
	}
	if state.epoch >= r.view.ID.Epoch {
		return refusal{"a state of this view or a later one", api.ErrState}
	}
	r.last = n.Pos
	r.states[n.Sender] = state
	if len(r.states) == len(r.view.Members) {
		r.adopt(n.Pos)
	}
	return nil
}

func (r *Replica) takeCommand(n api.Note, sender api.Member, told content) error {
	c, safe := told.command, told.count
	switch {
	case r.mode == api.ModeJoining:
		return refusal{"a command ahead of the switch", api.ErrNote}
	case c.Client != sender.Pid || c.Inc != sender.Inc:
		return refusal{"a command that is not its sender's", api.ErrState}
	case safe > r.log.length():
		return refusal{"entries that are not here", api.ErrState}
	case !r.log.hasRoom(safe):
		return refusal{"no room for one more entry", api.ErrNote}
	}
	r.last = n.Pos
	r.doSafe(max(0, safe-r.log.base))
	r.log.tail = append(r.log.tail, entry{c, n.Pos})
	r.write(api.RecAppend, textOf(c))
	return nil
}

// passSafe takes it that all members have what was delivered up to a position.
func (r *Replica) passSafe(pos int) error {
	if r.view.ID.Epoch == 0 || !within(pos, 1, api.MaxCount) {
		return refusal{"no position", api.ErrNote}
	}
	if r.mode != api.ModeAdopted && r.mode != api.ModeActive || pos < r.switched {
		return nil
	}
	r.mode = api.ModeActive
	count := 0
	for _, e := range r.log.tail {
		if e.position <= pos {
			count++
		}
	}
	r.doSafe(count)
	return nil
}

// adopt is the switch: all members' states are here, and each member takes the same log out of them.
func (r *Replica) adopt(pos int) {
	best, furthest := r.best(), r.furthest()
	r.log = log{
		epoch:   r.view.ID.Epoch,
		base:    furthest.base,
		machine: furthest.machine,
		tail:    best.above(furthest.base),
	}
	r.mode, r.switched, r.states = api.ModeAdopted, pos, nil
	r.records = append(r.records, r.Checkpoint())
	r.tell(api.Mark{Kind: api.MarkAdopt, ID: r.view.ID, N: r.log.length(), Pos: r.log.base})
	r.answerAdopted()
}

// answerAdopted answers the pending command, if it was done where the log comes from.
func (r *Replica) answerAdopted() {
	s, _ := r.log.machine.Session(r.self)
	if r.hasPending() && s.Inc == r.inc && s.Req == r.pending.Req {
		r.reply(r.pending, s.Last)
	}
}

// best is the state whose log is adopted.
func (r *Replica) best() log {
	var l []api.Standing
	for _, m := range r.view.Members {
		s := r.states[m.Pid]
		l = append(l, api.Standing{Pid: m.Pid, Epoch: s.epoch, Length: s.length()})
	}
	at, _ := quorum.Best(l) // a view's members are no more than it takes
	return r.states[l[at].Pid]
}

// furthest is the state with the greatest base, of several such that of the lowest member.
func (r *Replica) furthest() log {
	found := r.states[r.view.Members[0].Pid]
	for _, m := range r.view.Members {
		if s := r.states[m.Pid]; s.base > found.base {
			found = s
		}
	}
	return found
}

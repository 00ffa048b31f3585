package audit

import (
	"quorate/api"
	"quorate/machine"
	"quorate/quorum"
)

// service is what is kept of a service while its marks are gone through. All of it is that of a trace that broke no rule.
type service struct {
	votes   []int
	lives   map[who]life
	history history
	machine *machine.Machine    // has done what the history has given
	asked   map[api.Command]int // how often a command was taken
	indexes map[request]int     // at which a request was done
	reached reached
}

// life is what is kept of an incarnation. One of which nothing is known yet has nothing.
type life struct {
	inView       bool
	id           api.ViewID // of its view
	quorate      bool       // the view is
	adopted      bool       // in this view
	taken        int        // how many commands
	pending      api.Command
	last         int  // the index of its last MarkApply; 0: none yet
	adoptedSince bool // behind that
}

// isWaiting tells whether a command is pending: a valid one is never the zero one.
func (n life) isWaiting() bool { return n.pending != api.Command{} }

// request names a command.
type request struct{ client, inc, req int }

func requestOf(c api.Command) request { return request{c.Client, c.Inc, c.Req} }

func newService(votes []int) *service {
	return &service{votes: votes, lives: map[who]life{}, history: newHistory(), machine: machine.New(),
		asked: map[api.Command]int{}, indexes: map[request]int{}}
}

// life is that of the maker of a mark.
func (s *service) life(m api.Mark) life { return s.lives[maker(m)] }

// rules are those of the service, by their numbers.
func (s *service) rules() []rule {
	return []rule{
		{21, api.MarkAdopt, s.mayAdopt},
		{22, api.MarkDo, s.mayTake},
		{23, api.MarkApply, s.isNext},
		{24, api.MarkApply, s.isOneLog},
		{25, api.MarkApply, s.wasAskedFor},
		{26, api.MarkAdopt, s.lacksNothing},
		{27, api.MarkApply, s.isSerial},
		{28, api.MarkReply, s.isAnswer},
		{29, api.MarkReply, s.isWithoutGap},
	}
}

// keep keeps what a mark tells.
func (s *service) keep(m api.Mark) {
	n := s.life(m)
	switch m.Kind {
	case api.MarkBoot:
		n = life{}
	case api.MarkInstall:
		n.inView, n.id, n.quorate, n.adopted = true, m.ID, s.isQuorate(m.Members), false
	case api.MarkAdopt:
		n.adopted, n.adoptedSince = true, true
	case api.MarkDo:
		n.taken++
		n.pending = m.Cmd
		s.asked[m.Cmd]++
	case api.MarkApply:
		n.last, n.adoptedSince = m.N, false
		s.indexes[requestOf(m.Cmd)] = m.N
		if n.inView {
			s.reached = s.reached.with(reach{n.id.Epoch, m.N})
		}
	case api.MarkReply:
		n.pending = api.Command{}
	}
	s.lives[maker(m)] = n
}

// isQuorate tells whether a view of these members is.
func (s *service) isQuorate(members []api.Member) bool {
	var pids []int
	for _, x := range members {
		pids = append(pids, x.Pid)
	}
	is, _ := quorum.Quorate(s.votes, pids) // false where it answers an error
	return is
}

// mayAdopt is rule 21. Who is in no view is in none that is quorate.
func (s *service) mayAdopt(m api.Mark) bool {
	n := s.life(m)
	return m.ID == n.id && n.quorate && !n.adopted && within(m.Pos, 0, m.N)
}

// mayTake is rule 22: what is taken.
func (s *service) mayTake(m api.Mark) bool {
	n := s.life(m)
	return n.adopted && !n.isWaiting() && machine.CheckCommand(m.Cmd) == api.OK &&
		requestOf(m.Cmd) == request{m.Node, m.Inc, n.taken + 1}
}

// isNext is rule 23: one behind the other.
func (s *service) isNext(m api.Mark) bool {
	n := s.life(m)
	if n.last > 0 && !n.adoptedSince && m.N != n.last+1 {
		return false
	}
	return within(m.N, 1, api.MaxCount) && m.N > n.last
}

// isOneLog is rule 24: all do the same at an index as the first one did.
func (s *service) isOneLog(m api.Mark) bool {
	first, is := s.history.entries[m.N]
	return !is || first == entryOf(m)
}

// wasAskedFor is rule 25: what is done first at an index was asked for, and was done at no other.
func (s *service) wasAskedFor(m api.Mark) bool {
	if _, is := s.history.entries[m.N]; is {
		return true
	}
	return s.asked[m.Cmd] > 0 && s.indexes[requestOf(m.Cmd)] == 0
}

// lacksNothing is rule 26: what was done in views of lower epochs is kept.
func (s *service) lacksNothing(m api.Mark) bool { return m.N >= s.reached.below(m.ID.Epoch) }

// isSerial is rule 27: the entries that join the history are done in their order, each with its result.
func (s *service) isSerial(m api.Mark) bool {
	s.history.add(m)
	for e, more := s.history.next(); more; e, more = s.history.next() {
		if s.machine.Apply(e.command) != e.result {
			return false
		}
	}
	return true
}

// isAnswer is rule 28: what is answered is pending, and was done with this result.
func (s *service) isAnswer(m api.Mark) bool {
	n, index := s.life(m), s.indexes[requestOf(m.Cmd)]
	return n.isWaiting() && m.Cmd == n.pending && s.history.entries[index] == entryOf(m)
}

// isWithoutGap is rule 29: what is answered stands behind entries that are all known.
func (s *service) isWithoutGap(m api.Mark) bool {
	return s.indexes[requestOf(m.Cmd)] <= s.history.length
}

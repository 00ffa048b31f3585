package node

import (
	"strings"

	"quorate/api"
)

// longJournal: a journal of more bytes is begun anew at the next tick.
const longJournal = 16384

// What a blob begins with tells whose it is.
const (
	ofApplication = 0
	ofReplica     = 1
)

// step is an input at work, and what has come of it so far.
type step struct {
	*whole
	out api.Output
}

// tell adds marks, as this incarnation's.
func (s *step) tell(marks ...api.Mark) {
	for _, m := range marks {
		m.Node, m.Inc = s.self, s.inc
		s.out.Marks = append(s.out.Marks, m)
	}
}

// stop halts the node for what the journal has refused: without its records in the journal the node must not be heard.
func (s *step) stop(why api.Errno) {
	s.halted = true
	s.tell(api.Mark{Kind: api.MarkHalt, N: spent})
	s.out.Out, s.out.Err = nil, why
}

func (s *step) tick() {
	if s.journal.Size() > longJournal {
		ws, e := s.journal.Compact(s.Checkpoint())
		if e != api.OK {
			s.stop(e)
			return
		}
		s.out.Write = ws
	}
	s.out.Out, s.out.Err = s.Tick()
}

// send sends what a client wants to send, but not ahead of a blob of the replica that waits.
func (s *step) send(body []byte) {
	e := api.ErrBusy
	if _, waits := s.Next(); !waits {
		e = s.sendBlob(ofApplication, body)
	}
	if e != api.OK {
		s.tell(api.Mark{Kind: api.MarkRefuse, Err: e})
	}
	s.out.Err = e
}

// sendBlob gives the group a blob, and tells it if the group takes it.
func (s *step) sendBlob(whose byte, body []byte) api.Errno {
	blob := append([]byte{whose}, body...)
	seq, e := s.Send(blob)
	if e == api.OK {
		s.tell(api.Mark{Kind: api.MarkSend, ID: s.view, Seq: seq, Body: blob})
	}
	return e
}

// submit hands a client's command to the replica.
func (s *step) submit(c api.Command) {
	// The texts may be cut out of greater ones, which an answer must not hold on to.
	asked := api.Command{Op: c.Op, Key: strings.Clone(c.Key), Val: strings.Clone(c.Val), Old: strings.Clone(c.Old)}
	req, e := s.Submit(c)
	s.out.Err = e
	if e != api.OK {
		s.tell(api.Mark{Kind: api.MarkRefuse, Cmd: asked, Err: e})
		return
	}
	asked.Client, asked.Inc, asked.Req = s.self, s.inc, req
	s.tell(api.Mark{Kind: api.MarkDo, Cmd: asked})
}

func (s *step) leave() {
	s.out.Err = s.Leave()
	if s.out.Err == api.OK {
		s.tell(api.Mark{Kind: api.MarkLeave})
	}
}

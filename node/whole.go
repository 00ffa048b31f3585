package node

import (
	"quorate/api"
	"quorate/journal"
)

// groupFace is what a node asks of its group stack.
type groupFace interface {
	Tick() ([]api.Out, api.Errno)
	Receive(b []byte) api.Errno
	Send(blob []byte) (int, api.Errno)
	Poll() []api.Note
	Leave() api.Errno
	View() api.View
}

// replicaFace is what a node asks of its replica.
type replicaFace interface {
	Take(n api.Note) api.Errno
	Submit(c api.Command) (int, api.Errno)
	Next() ([]byte, bool)
	Sent()
	Marks() []api.Mark
	Records() []api.Record
	Checkpoint() api.Record
	Status() api.Status
}

// whole is a node's parts, and what binds them together.
type whole struct {
	groupFace
	replicaFace
	journal   *journal.Journal
	self, inc int
	view      api.ViewID // of the last install that was told
	halted    bool
}

// Why a node has halted, as its last mark tells it.
const (
	spent  = 1 // a counter or the journal has run out
	broken = 2 // a part is wrong
)

// breakDown halts a node of which a part is wrong: nothing that its step made is to be trusted.
func (w *whole) breakDown() api.Output {
	w.halted = true
	s := step{whole: w, out: api.Output{Err: api.ErrHalted}}
	s.tell(api.Mark{Kind: api.MarkHalt, N: broken})
	return s.out
}

// step lets an input work through all parts.
func (w *whole) step(in api.Input) api.Output {
	s := step{whole: w}
	switch in.Kind {
	case api.InTick:
		s.tick()
	case api.InPacket:
		s.out.Err = s.Receive(in.Bytes)
	case api.InSend:
		s.send(in.Bytes)
	case api.InDo:
		s.submit(in.Cmd)
	case api.InLeave:
		s.leave()
	default:
		return api.Output{Err: api.ErrInput}
	}
	if !s.halted {
		s.settle()
	}
	return s.out
}

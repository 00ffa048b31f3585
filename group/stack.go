package group

import (
	"quorate/api"
	"quorate/detect"
	"quorate/flush"
	"quorate/frag"
	"quorate/link"
	"quorate/member"
	"quorate/order"
)

// stack is a node's parts, and what binds them together.
type stack struct {
	*detect.Detector
	*member.Agent
	*link.Mux
	*flush.Store
	*frag.Joiner
	*order.Order // of the agent's view; nil ahead of the first install
	stay

	nodes, self, inc, window int
	happened                 []happening // not told yet
	past                     ended       // of the view ahead of the present one
	halted                   bool
}

// stay is what counts in one view alone.
type stay struct {
	queue    [][]byte // chunks that were accepted and not sent yet
	accepted int      // blobs
	whole    [api.MaxNodes]int
	toldSafe int
}

// fresh makes a stack of a valid configuration: all that it asks the parts for is within what they allow.
func fresh(c api.Config, self, inc int) stack {
	s := stack{nodes: c.Nodes, self: self, inc: inc, window: c.Window}
	frames := c.Window * (c.Nodes + 1)
	s.Detector, _ = detect.New(c.Nodes, self, inc, c.Base, c.Step, c.Cap)
	s.Agent, _ = member.New(c.Nodes, self, inc, c.Floor)
	s.Mux, _ = link.New(c.Nodes, self, frames, 2*frames)
	s.Store, _ = flush.New(c.Nodes)
	s.Joiner, _ = frag.New(c.Nodes)
	return s
}

func (s *stack) blocked() bool { return s.Order == nil || s.Changing() || s.halted }

// incOf is the incarnation in which node q is a member of the present view (0: it is none).
func (s *stack) incOf(q int) int {
	for _, m := range s.View().Members {
		if m.Pid == q {
			return m.Inc
		}
	}
	return 0
}

// others are the other members of the present view.
func (s *stack) others() []int {
	var list []int
	for _, m := range s.View().Members {
		if m.Pid != s.self {
			list = append(list, m.Pid)
		}
	}
	return list
}

func (s *stack) tell(h happening) { s.happened = append(s.happened, h) }

func (s *stack) halt() {
	s.tell(halted{})
	s.halted = true
}

// outcome is the answer of a call in which the node may have halted.
func (s *stack) outcome() api.Errno {
	if s.halted {
		return api.ErrHalted
	}
	return api.OK
}

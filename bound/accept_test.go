package bound_test

import (
	"slices"

	"quorate/api"
)

// desk is what a trace tells of a node's clients.
type desk struct {
	pending bool // a command has no answer yet
	sent    bool // its blob was sent in the present view
	blobs   int  // how many of the replica's blobs were sent in the present view
	refused int  // for how many rounds one byte was refused, and no replica's blob waited
	unasked int  // for how many rounds one byte was refused, and no command was asked
}

// take takes in a mark of the node.
func (d *desk) take(m api.Mark) {
	switch m.Kind {
	case api.MarkBoot:
		*d = desk{}
	case api.MarkInstall:
		d.sent, d.blobs = false, 0
	case api.MarkDo:
		d.pending, d.sent = true, false
	case api.MarkReply:
		d.pending = false
	case api.MarkSend:
		if m.Body[0] == 1 {
			d.sent = d.blobs > 0 // the first one in a view is the state
			d.blobs++
		}
	}
}

// probe takes in whether one byte was accepted behind a round: for how many rounds there was nothing that there must be.
func (d *desk) probe(accepted bool) int {
	d.refused, d.unasked = d.refused+1, d.unasked+1
	if accepted {
		d.refused, d.unasked = 0, 0
	} else if d.pending && !d.sent {
		d.refused = 0
	}
	return max(d.refused, d.unasked)
}

// isProbe tells whether an event is one of those right behind a round that let each node of the set send one byte.
func (a *alone) isProbe(i int) bool {
	k := slices.Index(a.set, a.s.Events[i].A)
	return k >= 0 && i > k && a.s.Events[i-k-1].Kind == api.EvRound && a.s.Events[i].Kind == api.EvSend
}

// wantAccepted: P18.8 and P8, of a script with probes behind each round. For how many rounds at most a node took nothing.
func (a *alone) wantAccepted(settle, deliver int) int {
	a.t.Helper()
	desks := make([]desk, a.s.Config.Nodes)
	most, at, round := 0, 0, 0
	for i, e := range a.s.Events {
		accepted := false
		for ; at < len(a.marks) && a.marks[at].At <= i+1; at++ {
			round = a.round[at]
			if m := a.marks[at]; m.Kind != api.MarkRound {
				desks[m.Node].take(m)
				accepted = accepted || m.Kind == api.MarkSend && m.Body[0] == 0
			}
		}
		if e.Kind == api.EvDo && slices.Contains(a.set, e.A) {
			desks[e.A].unasked = 0
		}
		if round <= settle || !a.isProbe(i) {
			continue
		}
		n := desks[e.A].probe(accepted)
		most = max(most, n)
		if n >= deliver {
			a.t.Fatalf("P18.8: node %d has taken no byte for %d rounds, up to the round %d", e.A, n, round)
		}
	}
	return most
}

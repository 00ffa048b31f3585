package quorum

import "quorate/api"

// Watch follows one node's views.
type Watch struct {
	ballot  ballot
	epoch   int        // of the view that was entered last; 0 is below every view's
	in      bool       // whether that one is quorate
	last    api.ViewID // the last quorate one
	entered int
	quorate int // how many of those
}

// New makes a watch that has seen no view.
func New(votes []int) (*Watch, api.Errno) {
	b, ok := counted(votes)
	if !ok {
		return nil, api.ErrVotes
	}
	return &Watch{ballot: b}, api.OK
}

// isCount tells whether a number can be an epoch, an incarnation or a change id of a view.
func isCount(n int) bool { return within(n, 1, api.MaxCount) }

// membersOf are the nodes of a view, if it is one of so many nodes.
func membersOf(v api.View, nodes int) (nodeSet, bool) {
	var s nodeSet
	for _, m := range v.Members {
		if !within(m.Pid, s.end(), nodes-1) || !isCount(m.Inc) || !isCount(m.Cid) {
			return 0, false
		}
		s = s.with(m.Pid)
	}
	if len(v.Members) == 0 || !isCount(v.ID.Epoch) {
		return 0, false
	}
	m := v.Members[0]
	return s, v.ID == api.ViewID{Epoch: v.ID.Epoch, Lead: m.Pid, Inc: m.Inc, Cid: m.Cid}
}

// Enter takes the next view: is it quorate?
func (w *Watch) Enter(v api.View) (bool, api.Errno) {
	s, ok := membersOf(v, w.ballot.nodes)
	if !ok {
		return false, api.ErrView
	}
	if v.ID.Epoch <= w.epoch {
		return false, api.ErrOrder
	}
	w.epoch = v.ID.Epoch
	w.in = w.ballot.isQuorate(s)
	w.entered++
	if w.in {
		w.quorate++
		w.last = v.ID
	}
	return w.in, api.OK
}

// In tells whether the present view is quorate.
func (w *Watch) In() bool { return w.in }

// Last is the ID of the last quorate view (the zero ID: none).
func (w *Watch) Last() api.ViewID { return w.last }

// Count is how many views there were, and how many of them were quorate.
func (w *Watch) Count() (int, int) { return w.entered, w.quorate }

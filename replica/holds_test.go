package replica_test

import (
	"fmt"
	"math/rand"
	"slices"
	"testing"

	"quorate/api"
	"quorate/replica"
)

// hall is a view of the test's group: the one order of its messages, and how far each member has come in it.
type hall struct {
	view   api.View
	order  []posted
	in     map[int]bool  // by pid: it has installed the view
	stamps map[int][]int // by pid and position: how many records it had told behind that delivery
	ended  map[int]int   // by pid: of one that has crashed since: up to which position its journal had it all
	from   map[int]*hall // by pid: the view that it comes from
	cut    map[*hall]int // by such a view: how far all who come from it deliver there
}

type posted struct {
	sender int
	body   []byte
}

// site is a node: its present incarnation, and its disk.
type site struct {
	r             *replica.Replica
	pid, inc, cid int
	isUp          bool
	disk, loose   []api.Record // what is written, and what is told and not written yet
	told, written int          // how many records of this incarnation
	top           int          // the epoch of the view that it is in; at first its Floor
	hall          *hall
	isFrozen      bool
	out           []byte // what the group has taken and not given a place yet
	outBehind     int    // how many records must be written ahead of that
	index         int    // of the entry that was done last
	adopted       int    // the length at the switch
	length        int    // of the log behind the last call, and its last entry
	end           api.Command
	safe          int // the greatest position that was told safe
	asked         api.Command
	waiting       int // the number of the request that has no answer yet
}

type deed struct {
	cmd    api.Command
	result api.Result
	epoch  int // of the view in which it was done first
}

// troupe is replicas of all nodes, and a group that keeps P3 to P5 and nothing more.
type troupe struct {
	t         testing.TB
	rand      *rand.Rand
	c         api.Config
	sites     []*site
	halls     []*hall
	deeds     map[int]deed // by index
	requests  map[[3]int]int
	snapshots map[int]string
	seen      map[string]int
	changes   int // how often views change
}

func (w *troupe) fail(s *site, format string, l ...any) {
	w.t.Helper()
	w.t.Fatalf("node %d.%d: %s", s.pid, s.inc, fmt.Sprintf(format, l...))
}

func (w *troupe) start(s *site) {
	w.t.Helper()
	s.inc++
	r, e := replica.New(w.c, s.pid, s.inc, s.disk)
	if e != api.OK {
		w.fail(s, "R2: what its journal holds is refused: error %d", e)
	}
	*s = site{r: r, pid: s.pid, inc: s.inc, isUp: true, disk: s.disk, top: max(w.c.Floor, replica.Promise(s.disk))}
	marks := r.Marks()
	s.index = r.Status().Base
	for i, m := range marks {
		n := s.index - len(marks) + 1 + i
		d, ok := w.deeds[n]
		if !ok {
			d = w.deed(m, r.Status().Epoch)
			w.seen["told after all"]++
		}
		if !sameMark(m, apply(n, d.cmd, d.result)) {
			w.fail(s, "R10: replaying tells %+v at %d, it was %+v", m, n, d)
		}
		w.seen["replayed"]++
	}
	w.look(s)
}

// take hands a note on, and looks at all that comes of it.
func (w *troupe) take(s *site, n api.Note) {
	w.t.Helper()
	if e := s.r.Take(n); e != api.OK {
		w.fail(s, "R13: Take(%+v): error %d", n, e)
	}
	marks := s.r.Marks()
	if len(marks) == 2 && marks[0].Kind == api.MarkAdopt && marks[1].Kind == api.MarkReply {
		w.seen["answers at a switch"]++
	}
	for _, m := range marks {
		switch m.Kind {
		case api.MarkAdopt:
			w.adopt(s, m)
		case api.MarkApply:
			w.apply(s, m)
		case api.MarkReply:
			w.reply(s, m)
		}
	}
	l := s.r.Records()
	s.loose = append(s.loose, l...)
	s.told += len(l)
	w.look(s)
}

func (w *troupe) adopt(s *site, m api.Mark) {
	w.t.Helper()
	w.seen["switches"]++
	tail := s.r.Log()
	if m.N < s.index {
		w.fail(s, "R11: it had done %d entries, and adopts %d", s.index, m.N)
	}
	if s.length > m.N || m.Pos < s.length && s.length > 0 && tail[s.length-m.Pos-1] != s.end {
		w.seen["entries given up"]++
	}
	s.index, s.adopted = m.Pos, m.N
	for n, d := range w.deeds {
		if d.epoch >= m.ID.Epoch {
			continue
		}
		if n > m.N || n > m.Pos && tail[n-m.Pos-1] != d.cmd {
			w.fail(s, "R11: entry %d, done in epoch %d, is not in the log that is adopted in %+v", n, d.epoch, m.ID)
		}
	}
}

func (w *troupe) apply(s *site, m api.Mark) {
	w.t.Helper()
	s.index++
	if m.N != s.index {
		w.fail(s, "R10: entry %d is done behind %d", m.N, s.index-1)
	}
	d, ok := w.deeds[m.N]
	if !ok {
		d = w.deed(m, s.hall.view.ID.Epoch)
	}
	if d.cmd != m.Cmd || d.result != m.Result {
		w.fail(s, "R10: at %d it does %+v with %+v, it was %+v", m.N, m.Cmd, m.Result, d)
	}
}

// deed keeps an entry that is done for the first time.
func (w *troupe) deed(m api.Mark, epoch int) deed {
	w.t.Helper()
	who := [3]int{m.Cmd.Client, m.Cmd.Inc, m.Cmd.Req}
	if n, ok := w.requests[who]; ok {
		w.t.Fatalf("R12: %v is done at %d and at %d", who, n, m.N)
	}
	w.requests[who] = m.N
	w.deeds[m.N] = deed{m.Cmd, m.Result, epoch}
	w.seen["entries"]++
	return w.deeds[m.N]
}

func (w *troupe) reply(s *site, m api.Mark) {
	w.t.Helper()
	n := w.requests[[3]int{s.pid, s.inc, s.waiting}]
	if s.waiting == 0 || w.deeds[n].cmd != m.Cmd || w.deeds[n].result != m.Result || m.Cmd != s.asked {
		w.fail(s, "P9: it answers %+v with %+v, and waits for %d, which is %+v", m.Cmd, m.Result, s.waiting, w.deeds[n])
	}
	s.waiting = 0
	w.seen["answers"]++
}

// look holds a replica against the others, and against what its records leave.
func (w *troupe) look(s *site) {
	w.t.Helper()
	status, snapshot := s.r.Status(), string(s.r.Snapshot())
	if was, ok := w.snapshots[status.Base]; ok && was != snapshot {
		w.fail(s, "R10: another machine with the base %d", status.Base)
	}
	w.snapshots[status.Base] = snapshot
	if status.Base != s.index || (status.Pending == 1) != (s.waiting > 0) {
		w.fail(s, "R9: the status is %+v behind entry %d, and request %d waits", status, s.index, s.waiting)
	}
	clients := map[int]int{}
	tail := s.r.Log()
	for _, c := range tail[min(len(tail), max(0, s.adopted-status.Base)):] {
		if clients[c.Client]++; clients[c.Client] > 1 && status.Mode > api.ModeJoining {
			w.fail(s, "R13: two entries of one member in the tail: %+v", tail)
		}
	}
	s.length = status.Length
	if len(tail) > 0 {
		s.end = tail[len(tail)-1]
	}
	if len(tail) > api.MaxNodes {
		w.fail(s, "P12: %d entries in the tail", len(tail))
	}
	if w.rand.Intn(10) > 0 {
		return
	}
	want := faceOf(s.r)
	want.status.Mode, want.status.Pending, want.next, want.hasNext = 0, 0, nil, false
	again := made(w.t, w.c, s.pid, s.inc, slices.Concat(s.disk, s.loose)...)
	wantFace(w.t, "R8: what its records leave", faceOf(again), want)
	again = made(w.t, w.c, s.pid, s.inc, s.r.Checkpoint())
	wantFace(w.t, "R14: what its checkpoint leaves", faceOf(again), want)
}

// kept is up to which position a member has delivered with all records of that in its journal.
func (w *troupe) kept(h *hall, m api.Member) int {
	if n, ok := h.ended[m.Pid]; ok {
		return n
	}
	n := 0
	for _, told := range h.stamps[m.Pid] {
		if told <= w.sites[m.Pid].written {
			n++
		}
	}
	return n
}

func (w *troupe) crash(s *site) {
	k := w.rand.Intn(len(s.loose) + 1)
	if k < len(s.loose) {
		w.seen["torn crashes"]++
	}
	w.write(s, k)
	for _, h := range w.halls {
		for _, m := range h.view.Members {
			if m.Pid == s.pid && m.Inc == s.inc {
				h.ended[m.Pid] = w.kept(h, m)
			}
		}
	}
	s.isUp, s.loose = false, nil
}

func (w *troupe) write(s *site, k int) {
	s.disk = append(s.disk, s.loose[:k]...)
	s.loose = s.loose[k:]
	s.written += k
}

// deliver lets a node take the next message of its view.
func (w *troupe) deliver(s *site) bool {
	w.t.Helper()
	h := s.hall
	if h == nil || len(h.stamps[s.pid]) == len(h.order) {
		return false
	}
	pos := len(h.stamps[s.pid]) + 1
	x := h.order[pos-1]
	if x.body == nil {
		h.stamps[s.pid] = append(h.stamps[s.pid], s.told) // another user's message
		return true
	}
	if s.r.Status().Mode == api.ModeIdle {
		w.fail(s, "the test is wrong: a replica sends in a view that is not quorate")
	}
	w.take(s, deliver(x.sender, pos, x.body))
	h.stamps[s.pid] = append(h.stamps[s.pid], s.told)
	return true
}

func (w *troupe) send(s *site) bool {
	b, ok := s.r.Next()
	if !ok || s.out != nil || s.isFrozen || s.hall == nil {
		return false
	}
	s.out, s.outBehind = b, s.told
	s.r.Sent()
	if s.waiting > 0 && b[0] == 2 {
		w.seen["sent"]++
	}
	return true
}

// place gives what a node has sent the next position, once what was told ahead of it is written.
func (w *troupe) place(s *site) bool {
	if s.out == nil || s.isFrozen || s.written < s.outBehind {
		return false
	}
	s.hall.order = append(s.hall.order, posted{s.pid, s.out})
	s.out = nil
	return true
}

func (w *troupe) tellSafe(s *site, less int) bool {
	w.t.Helper()
	if s.hall == nil {
		return false
	}
	pos := len(s.hall.order)
	for _, m := range s.hall.view.Members {
		pos = min(pos, w.kept(s.hall, m))
	}
	if pos -= less; pos <= s.safe {
		return false
	}
	s.safe = pos
	w.take(s, safe(pos))
	return true
}

func (w *troupe) submit(s *site) bool {
	c := cmd(0, 0, 0, []int{api.OpSet, api.OpGet, api.OpLock, api.OpUnlock}[w.rand.Intn(4)], string(rune('a'+w.rand.Intn(3))))
	if c.Op == api.OpSet {
		c.Val = fmt.Sprint(w.rand.Intn(1000))
	}
	n, e := s.r.Submit(c)
	if e != api.OK {
		return false
	}
	s.waiting = n
	c.Client, c.Inc, c.Req = s.pid, s.inc, n
	s.asked = c
	w.seen["submitted"]++
	return true
}

// propose makes a view of nodes that are up: they freeze, and may install it from now on.
func (w *troupe) propose(l []*site) *hall {
	h := &hall{in: map[int]bool{}, stamps: map[int][]int{}, ended: map[int]int{}, from: map[int]*hall{}, cut: map[*hall]int{}}
	epoch := 0
	var members []api.Member
	for _, s := range l {
		s.cid++
		s.isFrozen = true
		epoch = max(epoch, s.top+1)
		members = append(members, api.Member{Pid: s.pid, Inc: s.inc, Cid: s.cid})
		h.from[s.pid] = s.hall
		if s.hall != nil {
			h.cut[s.hall] = max(h.cut[s.hall], len(s.hall.stamps[s.pid]))
		}
	}
	for old, n := range h.cut {
		h.cut[old] = n + w.rand.Intn(len(old.order)-n+1)
	}
	h.view = view(epoch, members...)
	w.halls = append(w.halls, h)
	return h
}

// install lets a node go on to a view that it was asked into and that is still its next one.
func (w *troupe) install(s *site, h *hall) bool {
	w.t.Helper()
	isMember := slices.ContainsFunc(h.view.Members, func(m api.Member) bool { return m.Pid == s.pid && m.Inc == s.inc })
	if !isMember || h.in[s.pid] || h.from[s.pid] != s.hall || s.top >= h.view.ID.Epoch {
		return false
	}
	if s.hall != nil && len(s.hall.stamps[s.pid]) > h.cut[s.hall] {
		return false
	}
	for s.hall != nil && len(s.hall.stamps[s.pid]) < h.cut[s.hall] {
		w.deliver(s)
	}
	s.hall, s.top, s.isFrozen, s.out, s.safe = h, h.view.ID.Epoch, false, nil, 0
	h.in[s.pid] = true
	w.take(s, install(h.view))
	return true
}

func (w *troupe) up() []*site {
	return slices.DeleteFunc(slices.Clone(w.sites), func(s *site) bool { return !s.isUp })
}

// some are a drawn part of the nodes that are up, one at least.
func (w *troupe) some() []*site {
	l := w.up()
	if len(l) == 0 {
		return nil
	}
	keep := l[w.rand.Intn(len(l))]
	return slices.DeleteFunc(l, func(s *site) bool { return s != keep && w.rand.Intn(3) == 0 })
}

// step lets any one thing happen; false: nothing has.
func (w *troupe) step() bool {
	w.t.Helper()
	s := w.sites[w.rand.Intn(len(w.sites))]
	if !s.isUp {
		if w.rand.Intn(15) == 0 {
			w.start(s)
		}
		return true
	}
	switch k := w.rand.Intn(1000); {
	case k < 300:
		return !s.isFrozen && w.deliver(s)
	case k < 400:
		return w.send(s)
	case k < 500:
		return w.place(s)
	case k < 650:
		k := w.rand.Intn(len(s.loose) + 1)
		w.write(s, k)
		return k > 0
	case k < 750:
		return w.tellSafe(s, w.rand.Intn(3)/2)
	case k < 850:
		return w.submit(s)
	case k < 970:
		return len(w.halls) > 0 && w.install(s, w.halls[len(w.halls)-1-w.rand.Intn(min(3, len(w.halls)))])
	case k < 980 && s.hall != nil && !s.isFrozen:
		s.hall.order = append(s.hall.order, posted{sender: s.pid})
	case k < 985:
		w.take(s, api.Note{Kind: api.NoteBlock})
	case k < 990 && len(s.loose) == 0:
		s.disk = []api.Record{s.r.Checkpoint()}
	case k < 992 && w.rand.Intn(3) == 0:
		w.crash(s)
	case k < 992+w.changes:
		w.propose(w.some())
	}
	return true
}

// settle leaves all nodes alone in one view.
func (w *troupe) settle() {
	w.t.Helper()
	for _, s := range w.sites {
		if !s.isUp {
			w.start(s)
		}
	}
	h := w.propose(w.sites)
	for _, s := range w.sites {
		if !w.install(s, h) {
			w.fail(s, "the test is wrong: it does not install %+v", h.view)
		}
	}
	for round := range 12 {
		w.rounds()
		for _, s := range w.sites {
			status := s.r.Status()
			if status.Mode != api.ModeActive || status.Base != status.Length || status.Pending > 0 {
				w.fail(s, "P11: in a settled view its status is %+v", status)
			}
			if status.Base != w.sites[0].r.Status().Base {
				w.fail(s, "R11: %d entries are done in a settled view", status.Base)
			}
			if round < 11 && !w.submit(s) {
				w.fail(s, "P11: it takes no command in a settled view")
			}
		}
	}
}

// rounds lets everything go its way until nothing more happens.
func (w *troupe) rounds() {
	w.t.Helper()
	for goesOn := true; goesOn; {
		goesOn = false
		for _, s := range w.sites {
			goesOn = w.send(s) || goesOn
			w.write(s, len(s.loose))
			goesOn = w.place(s) || goesOn
			goesOn = w.deliver(s) || goesOn
			w.write(s, len(s.loose))
			goesOn = w.tellSafe(s, 0) || goesOn
		}
	}
}

// TestHolds: R10 to R14 and P9 to P11, whatever views come, whoever crashes, and whatever is torn.
func TestHolds(t *testing.T) {
	seen := map[string]int{}
	for seed := range 240 {
		r := rand.New(rand.NewSource(int64(seed)))
		c := config(1 + r.Intn(5))
		if seed%2 == 0 {
			for p := range c.Votes {
				c.Votes[p] = r.Intn(3)
			}
			c.Votes[r.Intn(c.Nodes)] = 1 + r.Intn(2)
		}
		c.Floor = r.Intn(2) * r.Intn(1000)
		w := &troupe{t: t, rand: r, c: c, deeds: map[int]deed{}, requests: map[[3]int]int{}, snapshots: map[int]string{}, seen: seen, changes: 1 + 3*(seed%3)}
		for p := range c.Nodes {
			w.sites = append(w.sites, &site{pid: p})
			w.start(w.sites[p])
		}
		for range 3 {
			for range 1500 {
				for tries := 0; tries < 9 && !w.step(); tries++ {
				}
			}
			if seed%4 == 0 {
				w.settle()
			}
		}
		w.settle()
	}
	if seen["told after all"] > 0 {
		t.Error("R2: replaying tells entries that nobody has done")
	}
	for what, least := range map[string]int{
		"switches": 5000, "entries": 10000, "answers": 10000, "answers at a switch": 100, "replayed": 2000, "torn crashes": 500, "submitted": 10000, "entries given up": 100,
	} {
		if seen[what] < least {
			t.Errorf("the test is too weak: %d %s", seen[what], what)
		}
	}
}

package node_test

import (
	"slices"
	"testing"

	"quorate/api"
	"quorate/group"
	"quorate/journal"
	"quorate/node"
	"quorate/replica"
)

// standing is how a log stands: its base and its length, its tail and what its machine came to.
type standing struct {
	base, length int
	log          []api.Command
	snapshot     string
}

func standingOf(r *replica.Replica) standing {
	return standing{r.Status().Base, r.Status().Length, r.Log(), string(r.Snapshot())}
}

func sameStanding(a, b standing) bool {
	return a.base == b.base && a.length == b.length && slices.Equal(a.log, b.log) && a.snapshot == b.snapshot
}

// model is a node as the chapter's words say it, point by point, over parts of its own.
type model struct {
	self, inc int
	group     *group.Group
	replica   *replica.Replica
	journal   *journal.Journal
	present   api.ViewID
	halted    bool
	out       api.Output
	looks     bool       // whether it keeps
	stood     []standing // ahead of the last step, and behind each record of it
}

func modelled(c api.Config, self, inc int, d api.Disk) (*model, api.Output, api.Errno) {
	j, l, ws, e := journal.Open(d)
	if e != api.OK {
		return nil, api.Output{}, e
	}
	r, e := replica.New(c, self, inc, l)
	if e != api.OK {
		return nil, api.Output{}, e
	}
	if p := replica.Promise(l); p > c.Floor {
		c.Floor = p
	}
	if c.Floor == api.MaxCount {
		return nil, api.Output{}, api.ErrSpent
	}
	m := &model{self: self, inc: inc, replica: r, journal: j}
	m.group, _ = group.New(c, self, inc)
	m.mark(api.Mark{Kind: api.MarkBoot})
	for _, x := range r.Marks() {
		m.mark(x)
	}
	m.out.Write = ws
	return m, m.out, api.OK
}

func (m *model) mark(x api.Mark) {
	x.Node, x.Inc = m.self, m.inc
	m.out.Marks = append(m.out.Marks, x)
}

func (m *model) step(in api.Input) api.Output {
	m.out = api.Output{}
	m.stood = nil
	m.stand(0)
	if m.halted {
		m.out.Err = api.ErrHalted
		return m.out
	}
	switch in.Kind {
	case api.InTick:
		if m.journal.Size() > 16384 {
			ws, e := m.journal.Compact(m.replica.Checkpoint())
			if e != api.OK {
				return m.stopped(e)
			}
			m.out.Write = append(m.out.Write, ws...)
			m.stand(0)
		}
		m.out.Out, m.out.Err = m.group.Tick()
	case api.InPacket:
		m.out.Err = m.group.Receive(in.Bytes)
	case api.InSend:
		m.stepSend(in.Bytes)
	case api.InDo:
		m.stepDo(in.Cmd)
	case api.InLeave:
		if m.out.Err = m.group.Leave(); m.out.Err == api.OK {
			m.mark(api.Mark{Kind: api.MarkLeave})
		}
	default:
		m.out.Err = api.ErrInput
		return m.out
	}
	for m.settleOnce() {
	}
	return m.out
}

// stand keeps how the log stands, but for so many entries that the journal does not have yet.
func (m *model) stand(entries int) {
	if !m.looks {
		return
	}
	s := standingOf(m.replica)
	s.length -= entries
	s.log = s.log[:len(s.log)-entries]
	m.stood = append(m.stood, s)
}

func (m *model) stopped(e api.Errno) api.Output {
	m.halted = true
	m.mark(api.Mark{Kind: api.MarkHalt, N: 1})
	m.out.Err, m.out.Out = e, nil
	return m.out
}

func (m *model) stepSend(b []byte) {
	if _, has := m.replica.Next(); has {
		m.out.Err = api.ErrBusy
	} else {
		m.out.Err = m.send(append([]byte{0}, b...))
	}
	if m.out.Err != api.OK {
		m.mark(api.Mark{Kind: api.MarkRefuse, Err: m.out.Err})
	}
}

func (m *model) send(blob []byte) api.Errno {
	n, e := m.group.Send(blob)
	if e == api.OK {
		m.mark(api.Mark{Kind: api.MarkSend, ID: m.group.View().ID, Seq: n, Body: blob})
	}
	return e
}

func (m *model) stepDo(c api.Command) {
	n, e := m.replica.Submit(c)
	m.out.Err = e
	if e != api.OK {
		m.mark(api.Mark{Kind: api.MarkRefuse, Err: e, Cmd: api.Command{Op: c.Op, Key: c.Key, Val: c.Val, Old: c.Old}})
		return
	}
	c.Client, c.Inc, c.Req = m.self, m.inc, n
	m.mark(api.Mark{Kind: api.MarkDo, Cmd: c})
}

// settleOnce goes through both points of 15.4 once: whether anything was found.
func (m *model) settleOnce() bool {
	found := false
	for _, n := range m.group.Poll() {
		found = true
		if !m.note(n) {
			return false
		}
	}
	for {
		b, has := m.replica.Next()
		if !has || m.send(append([]byte{1}, b...)) != api.OK {
			return found
		}
		m.replica.Sent()
		found = true
	}
}

// note: whether the node has not halted.
func (m *model) note(n api.Note) bool {
	switch n.Kind {
	case api.NoteBlock:
		m.mark(api.Mark{Kind: api.MarkBlock, ID: m.present})
		m.replica.Take(n)
	case api.NoteInstall:
		m.present = n.View.ID
		m.mark(api.Mark{Kind: api.MarkInstall, ID: n.View.ID, Members: n.View.Members, Trans: n.Trans, N: n.Lost})
		m.replica.Take(n)
	case api.NoteDeliver:
		m.mark(api.Mark{Kind: api.MarkDeliver, ID: m.present, Sender: n.Sender, Seq: n.Seq, Pos: n.Pos, Body: n.Body})
		if len(n.Body) > 0 && n.Body[0] == 1 {
			n.Body = n.Body[1:]
			m.replica.Take(n)
		}
	case api.NoteSafe:
		m.mark(api.Mark{Kind: api.MarkSafe, ID: m.present, Pos: n.Pos})
		m.replica.Take(n)
	case api.NoteHalt:
		m.mark(api.Mark{Kind: api.MarkHalt, N: 1})
		m.replica.Take(n)
		m.halted = true
		return false
	}
	l := m.replica.Records()
	for i, r := range l {
		ws, e := m.journal.Append(r)
		if e != api.OK {
			m.stopped(e)
			return false
		}
		m.out.Write = append(m.out.Write, ws...)
		m.stand(len(l) - 1 - i) // of two records the first is a RecSafe, the other appends one entry
	}
	for _, x := range m.replica.Marks() {
		m.mark(x)
	}
	return true
}

// twins: a node and its model, and their disk.
type twins struct {
	t        testing.TB
	c        api.Config
	pid, inc int
	n        *node.Node
	m        *model
	disk     api.Disk
}

// twinned makes a node and its model; nil, if it cannot be made any more.
func twinned(t testing.TB, c api.Config, self, inc int, d api.Disk) (*twins, api.Output) {
	t.Helper()
	n, o, e := node.New(c, self, inc, d)
	m, want, f := modelled(c, self, inc, d)
	if e != f || !sameOutput(o, want) || (n == nil) != (e != api.OK) {
		t.Fatalf("P15.1: New(%+v, %d, %d, ..) tells\n%s\nerror %d, want\n%s\nerror %d", c, self, inc, lines(t, o.Marks), e, lines(t, want.Marks), f)
	}
	if n == nil {
		return nil, o
	}
	x := &twins{t: t, c: c, pid: self, inc: inc, n: n, m: m, disk: journal.Apply(d, o.Write, -1)}
	x.wantAlike(api.Input{})
	return x, o
}

// wantAlike: what they tell without changing.
func (x *twins) wantAlike(in api.Input) {
	x.t.Helper()
	if !sameView(x.n.View(), x.m.group.View()) || x.n.Status() != x.m.replica.Status() || x.n.Halted() != x.m.halted {
		x.t.Fatalf("P15.8: behind Step(%+v): %+v, %+v, %v, want %+v, %+v, %v", in,
			x.n.View(), x.n.Status(), x.n.Halted(), x.m.group.View(), x.m.replica.Status(), x.m.halted)
	}
}

// step lets both work, and makes their writes.
func (x *twins) step(in api.Input) api.Output {
	x.t.Helper()
	got, want := x.n.Step(in), x.m.step(in)
	if !sameOutput(got, want) {
		x.t.Fatalf("15.3 and 15.4: Step(%+v) of %d/%d tells\n%s\nwith %d packets, %d writes, error %d, want\n%s\nwith %d, %d, error %d", in, x.pid, x.inc,
			lines(x.t, got.Marks), len(got.Out), len(got.Write), got.Err, lines(x.t, want.Marks), len(want.Out), len(want.Write), want.Err)
	}
	x.wantAlike(in)
	x.wantSettled()
	if len(got.Write) == 0 {
		return got
	}
	x.disk = journal.Apply(x.disk, got.Write, -1)
	if max(len(x.disk.A), len(x.disk.B)) > api.MaxFile {
		x.t.Fatalf("P15.10: the files have %d and %d bytes", len(x.disk.A), len(x.disk.B))
	}
	return got
}

// wantSettled: P15.4, of the model's parts: nothing is left but a blob that the group would not take.
func (x *twins) wantSettled() {
	x.t.Helper()
	if x.m.halted {
		return
	}
	if len(x.m.group.Poll()) > 0 || len(x.m.replica.Records()) > 0 || len(x.m.replica.Marks()) > 0 {
		x.t.Fatal("P15.4: something is left behind a step")
	}
}

package group_test

import (
	"bytes"
	"math/rand"
	"slices"
	"testing"

	"quorate/api"
	"quorate/detect"
	"quorate/flush"
	"quorate/frag"
	"quorate/group"
	"quorate/link"
	"quorate/member"
	"quorate/order"
	"quorate/wire"
)

// model is a Group as the chapter's words say it, point by point.
type model struct {
	c         api.Config
	self, inc int

	detector *detect.Detector
	agent    *member.Agent
	mux      *link.Mux
	store    *flush.Store
	joiner   *frag.Joiner
	order    *order.Order
	view     api.View // the order's

	queue    [][]byte
	notes    []api.Note
	accepted int
	whole    map[int]int
	safe     int

	pastWho  []int
	pastAll  []api.Flush
	pastMsgs []api.Data

	halted bool
}

func modelled(c api.Config, self, inc int) *model {
	w := c.Window * (c.Nodes + 1)
	m := &model{c: c, self: self, inc: inc, whole: map[int]int{}}
	m.detector, _ = detect.New(c.Nodes, self, inc, c.Base, c.Step, c.Cap)
	m.agent, _ = member.New(c.Nodes, self, inc, c.Floor)
	m.mux, _ = link.New(c.Nodes, self, w, 2*w)
	m.store, _ = flush.New(c.Nodes)
	m.joiner, _ = frag.New(c.Nodes)
	return m
}

func (m *model) blocked() bool { return m.order == nil || m.agent.Changing() || m.halted }

func (m *model) Send(blob []byte) (int, api.Errno) {
	if m.halted {
		return 0, api.ErrHalted
	}
	if len(blob) > api.MaxBlob {
		return 0, api.ErrBlob
	}
	if m.blocked() {
		return 0, api.ErrBlocked
	}
	if frag.Count(len(blob))+len(m.queue) > api.MaxQueue {
		return 0, api.ErrBusy
	}
	l, _ := frag.Split(blob)
	m.queue = append(m.queue, l...)
	m.accepted++
	return m.accepted, api.OK
}

func (m *model) Leave() api.Errno {
	if m.halted {
		return api.ErrHalted
	}
	m.detector.Leave()
	return api.OK
}

func (m *model) Poll() []api.Note {
	l := m.notes
	m.notes = nil
	return l
}

func (m *model) begin() {
	if m.order == nil || m.order.Frozen() {
		return
	}
	m.order.Freeze()
	m.pastWho, m.pastAll, m.pastMsgs = nil, nil, nil
	m.store.Take(m.self, m.inc, m.order.Content(m.c.Nodes))
	m.store.Begin(m.view.ID)
	m.notes = append(m.notes, api.Note{Kind: api.NoteBlock})
}

// together: who and all of 10.3, point 2, and whether none is lacking.
func (m *model) together(w api.View, trans []int) ([]int, []api.Flush, bool) {
	var who []api.Member
	var numbers []int
	for _, x := range w.Members {
		if slices.Contains(trans, x.Pid) {
			who = append(who, x)
			numbers = append(numbers, x.Pid)
		}
	}
	all, e := m.store.Contents(m.view.ID, who)
	return numbers, all, e == api.OK
}

func (m *model) deliver(x api.Msg) {
	blob, whole, e := m.joiner.Take(x.Sender, x.Body)
	if e != api.OK || !whole {
		return
	}
	m.whole[x.Sender]++
	m.notes = append(m.notes, api.Note{Kind: api.NoteDeliver, Sender: x.Sender, Seq: m.whole[x.Sender], Pos: x.Pos, Body: blob})
}

func (m *model) halt() api.Errno {
	m.notes = append(m.notes, api.Note{Kind: api.NoteHalt})
	m.halted = true
	return api.ErrHalted
}

func (m *model) tryInstall() {
	w, trans, is := m.agent.Agreed()
	if !is || len(m.notes) >= api.MaxNotes {
		return
	}
	var who []int
	var all []api.Flush
	var kept []api.Data
	lost := 0
	if m.order != nil {
		var there bool
		if who, all, there = m.together(w, trans); !there {
			return
		}
		kept = m.order.Messages()
		rest, e := flush.Rest(m.order.Done(), all, slices.Concat(kept, m.store.Messages()))
		if e != api.OK {
			return
		}
		for _, x := range rest {
			m.deliver(x)
		}
		lost = max(0, m.accepted-m.whole[m.self])
	}
	if _, _, e := m.agent.Install(); e != api.OK {
		m.halt()
		return
	}
	m.notes = append(m.notes, api.Note{Kind: api.NoteInstall, View: w, Trans: trans, Lost: lost})
	m.pastWho, m.pastAll, m.pastMsgs = who, all, kept
	m.view = m.agent.View()
	m.order, _ = order.New(m.view, m.self, m.c.Window)
	m.mux.Reset(m.view.ID, m.peers())
	m.joiner.Reset()
	m.queue, m.accepted, m.whole, m.safe = nil, 0, map[int]int{}, 0
}

func (m *model) peers() []int {
	var l []int
	for _, x := range m.view.Members {
		if x.Pid != m.self {
			l = append(l, x.Pid)
		}
	}
	return l
}

func (m *model) leastRoom() int {
	n := api.MaxCount
	for _, q := range m.peers() {
		n = min(n, m.mux.Room(q))
	}
	return n
}

func (m *model) pushAll(it api.Item) {
	b, _ := wire.EncodeItem(it)
	for _, q := range m.peers() {
		m.mux.Push(q, b)
	}
}

func (m *model) goOn() {
	if m.halted {
		return
	}
	if m.agent.Changing() {
		m.tryInstall()
	}
	if m.blocked() {
		return
	}
	for did := true; did; {
		did = false
		for len(m.queue) > 0 && m.order.Free() > 0 && m.leastRoom() > 0 {
			d, _ := m.order.Send(m.queue[0])
			m.queue = m.queue[1:]
			m.pushAll(api.Item{Kind: api.ItemData, Data: d})
			did = true
		}
		for _, it := range m.order.Assign(m.leastRoom()) {
			m.pushAll(it)
			did = true
		}
		for _, x := range m.order.Deliver(api.MaxNotes - len(m.notes)) {
			m.deliver(x)
			did = true
		}
		if m.order.Prefix() > m.safe && len(m.notes) < api.MaxNotes {
			m.safe = m.order.Prefix()
			m.notes = append(m.notes, api.Note{Kind: api.NoteSafe, Pos: m.safe})
			did = true
		}
	}
}

func (m *model) Tick() ([]api.Out, api.Errno) {
	if m.halted {
		return nil, api.ErrHalted
	}
	m.detector.Tick()
	begins, e := m.agent.Estimate(m.detector.Estimate())
	if e == api.ErrSpent {
		return nil, m.halt()
	}
	if begins {
		m.begin()
	}
	m.goOn()
	if m.halted {
		return nil, api.ErrHalted
	}
	var l []api.Out
	for q := range m.c.Nodes {
		if q != m.self {
			l = append(l, m.outs(q)...)
		}
	}
	return l, api.OK
}

func (m *model) outs(q int) []api.Out {
	var l []api.Out
	add := func(p api.Packet, kind, inc int) {
		p.Head = api.Head{Kind: kind, Src: m.self, SrcInc: m.inc, Dst: q, DstInc: inc}
		if b, e := wire.Encode(p); e == api.OK {
			l = append(l, api.Out{Dst: q, Bytes: b})
		}
	}
	known, own := m.detector.Known(q), m.agent.Proposal()
	frozen := m.order != nil && m.order.Frozen()
	seen := m.order != nil && m.order.Seen(q)
	add(api.Packet{Beat: m.detector.Beat()}, api.KindBeat, 0)
	if own.Set[q] != 0 && (m.blocked() || !seen) {
		add(api.Packet{Propose: own}, api.KindPropose, known)
	}
	if frozen && own.Set[q] != 0 && slices.ContainsFunc(m.view.Members, func(x api.Member) bool { return x.Pid == q && x.Inc == own.Set[q] }) {
		add(api.Packet{Flush: m.order.Content(m.c.Nodes)}, api.KindFlush, known)
	}
	if !m.blocked() && slices.Contains(m.pastWho, q) && !seen {
		add(api.Packet{Flush: m.pastAll[slices.Index(m.pastWho, m.self)]}, api.KindFlush, known)
	}
	if w, trans, is := m.agent.Agreed(); frozen && is {
		if who, all, there := m.together(w, trans); there {
			add(api.Packet{Forward: m.forward(q, who, all, m.order.Messages())}, api.KindForward, known)
		}
	}
	if !m.blocked() && !seen {
		add(api.Packet{Forward: m.forward(q, m.pastWho, m.pastAll, m.pastMsgs)}, api.KindForward, known)
	}
	if !m.blocked() && slices.Contains(m.peers(), q) {
		add(api.Packet{Stable: m.order.Told()}, api.KindStable, known)
	}
	if !m.blocked() {
		for _, f := range m.mux.Frames(q) {
			add(api.Packet{Frame: f}, api.KindFrame, known)
		}
		if a, owed := m.mux.Owed(q); owed {
			add(api.Packet{Ack: a}, api.KindAck, known)
		}
	}
	return l
}

// forward: one without messages is no packet.
func (m *model) forward(q int, who []int, all []api.Flush, msgs []api.Data) api.Forward {
	duty, e := flush.Duty(m.self, q, who, all)
	if e != api.OK {
		return api.Forward{}
	}
	f := api.Forward{Prev: all[0].Prev}
	for _, d := range msgs {
		for _, s := range duty {
			if s == (api.Slot{Sender: d.Sender, Seq: d.Seq}) {
				f.Msgs = append(f.Msgs, d)
			}
		}
	}
	return f
}

func (m *model) Receive(b []byte) api.Errno {
	if m.halted {
		return api.ErrHalted
	}
	p, e := wire.Decode(b)
	if e != api.OK {
		return e
	}
	if p.Dst != m.self || (p.DstInc != 0 && p.DstInc != m.inc) {
		return api.ErrMisled
	}
	if p.Src >= m.c.Nodes {
		return api.ErrStranger
	}
	if p.Kind == api.KindBeat {
		return m.detector.Heard(p.Src, p.SrcInc, p.Beat)
	}
	if p.SrcInc < m.detector.Known(p.Src) {
		return api.ErrOld
	}
	if p.SrcInc > m.detector.Known(p.Src) {
		return api.ErrStranger
	}
	switch p.Kind {
	case api.KindPropose:
		begins, e := m.agent.Take(p.Src, p.SrcInc, p.Propose)
		if e == api.ErrSpent {
			return m.halt()
		}
		if e != api.OK {
			return e
		}
		if begins {
			m.begin()
		}
	case api.KindFlush:
		e = m.store.Take(p.Src, p.SrcInc, p.Flush)
	case api.KindForward:
		e = m.store.Add(p.Forward)
	default:
		return m.receiveInView(p)
	}
	if e != api.OK {
		return e
	}
	m.goOn()
	if m.halted {
		return api.ErrHalted
	}
	return api.OK
}

func (m *model) receiveInView(p api.Packet) api.Errno {
	if m.order == nil {
		return api.ErrView
	}
	if m.blocked() {
		return api.ErrFrozen
	}
	i := slices.IndexFunc(m.view.Members, func(x api.Member) bool { return x.Pid == p.Src })
	if i < 0 {
		return api.ErrSender
	}
	if m.view.Members[i].Inc != p.SrcInc {
		return api.ErrStranger
	}
	answer := api.OK
	switch p.Kind {
	case api.KindStable:
		if e := m.order.Hear(p.Src, p.Stable); e != api.OK {
			return e
		}
	case api.KindAck:
		if e := m.mux.Acked(p.Src, p.Ack); e != api.OK {
			return e
		}
	case api.KindFrame:
		l, e := m.mux.Take(p.Src, p.Frame)
		if e != api.OK {
			return e
		}
		for _, b := range l {
			it, e := wire.DecodeItem(b)
			if e == api.OK {
				e = m.order.Place(p.Src, it)
			}
			if answer == api.OK {
				answer = e
			}
		}
	}
	m.goOn()
	return answer
}

// twins: a Group and its model.
type twins struct {
	g *group.Group
	m *model
}

// wantAlike: what they tell without changing.
func (x twins) wantAlike(t *testing.T, call string) {
	t.Helper()
	if !sameView(x.g.View(), x.m.agent.View()) || x.g.Blocked() != x.m.blocked() || x.g.Halted() != x.m.halted || x.g.Queue() != len(x.m.queue) {
		t.Fatalf("G2: behind %s: View %v, Blocked %v, Halted %v, Queue %d, want %v, %v, %v, %d", call,
			x.g.View(), x.g.Blocked(), x.g.Halted(), x.g.Queue(), x.m.agent.View(), x.m.blocked(), x.m.halted, len(x.m.queue))
	}
}

func (x twins) tick(t *testing.T) []api.Out {
	t.Helper()
	got, e := x.g.Tick()
	want, f := x.m.Tick()
	if e != f || !slices.EqualFunc(got, want, sameOut) {
		t.Fatalf("G6: Tick = %s, error %d, want %s, error %d", kinds(packets(t, got)), e, kinds(packets(t, want)), f)
	}
	x.wantAlike(t, "Tick")
	return got
}

func (x twins) receive(t *testing.T, b []byte) api.Errno {
	t.Helper()
	e, f := x.g.Receive(b), x.m.Receive(b)
	if e != f {
		p, _ := wire.Decode(b)
		t.Fatalf("G7: Receive(%+v): error %d, want %d", p, e, f)
	}
	x.wantAlike(t, "Receive")
	return e
}

func (x twins) send(t *testing.T, blob []byte) {
	t.Helper()
	n, e := x.g.Send(blob)
	if k, f := x.m.Send(blob); n != k || e != f {
		t.Fatalf("G4: Send of %d bytes = %d, error %d, want %d, error %d", len(blob), n, e, k, f)
	}
	x.wantAlike(t, "Send")
}

func (x twins) poll(t *testing.T) []api.Note {
	t.Helper()
	got, want := x.g.Poll(), x.m.Poll()
	if !slices.EqualFunc(got, want, sameNote) {
		t.Fatalf("G3: Poll = %s, want %s", words(got), words(want))
	}
	if len(got) > api.MaxNotes+api.MaxHeld+4 {
		t.Fatalf("G13: there are %d notes", len(got))
	}
	x.wantAlike(t, "Poll")
	return got
}

func (x twins) leave(t *testing.T) {
	t.Helper()
	if e, f := x.g.Leave(), x.m.Leave(); e != f {
		t.Fatalf("G5: Leave: error %d, want %d", e, f)
	}
	x.wantAlike(t, "Leave")
}

// wild: a net of twins, and a pool of what they gave out.
type wild struct {
	t     *testing.T
	r     *rand.Rand
	c     api.Config
	nodes []twins
	incs  []int
	last  [][]api.Out
	pool  []api.Out
	false bool // packets are altered, too
	lazy  bool // seldom polled
	took  map[api.Errno]int
}

func wilder(t *testing.T, r *rand.Rand) *wild {
	c := wildConfig(r)
	if r.Intn(4) == 0 {
		c.Floor = api.MaxCount - 1 - r.Intn(6)
	}
	w := &wild{t: t, r: r, c: c, false: r.Intn(2) == 0, lazy: r.Intn(4) == 0, took: map[api.Errno]int{}}
	for p := range c.Nodes {
		w.nodes = append(w.nodes, twins{})
		w.incs = append(w.incs, 0)
		w.last = append(w.last, nil)
		w.born(p)
	}
	return w
}

func (w *wild) born(p int) {
	w.incs[p] += 1 + w.r.Intn(2)
	w.nodes[p] = twins{made(w.t, w.c, p, w.incs[p]), modelled(w.c, p, w.incs[p])}
	w.last[p] = nil
}

func (w *wild) receive(dst int, b []byte) {
	if w.false && w.r.Intn(12) == 0 {
		b = altered(w.r, b, w.c.Nodes)
	}
	w.took[w.nodes[dst].receive(w.t, b)]++
}

// turn: everybody's last packets come over, some lost, some late; all tick; some send, poll, leave, crash.
func (w *wild) turn(lost func(src, dst int) bool) {
	for src, l := range w.last {
		for _, o := range l {
			if !lost(src, o.Dst) {
				w.receive(o.Dst, o.Bytes)
			}
		}
	}
	for k := w.r.Intn(6); k > 0 && len(w.pool) > 0; k-- {
		o := w.pool[w.r.Intn(len(w.pool))]
		if w.r.Intn(20) == 0 {
			o.Dst = w.r.Intn(w.c.Nodes)
		}
		w.receive(o.Dst, o.Bytes)
	}
	for p := range w.nodes {
		w.last[p] = w.nodes[p].tick(w.t)
		w.pool = append(w.pool, w.last[p]...)
		if w.r.Intn(3) == 0 {
			w.nodes[p].send(w.t, wildBlob(w.r))
		}
		if !w.lazy || w.r.Intn(30) == 0 {
			w.nodes[p].poll(w.t)
		}
		switch w.r.Intn(300) {
		case 0:
			w.nodes[p].leave(w.t)
		case 1, 2:
			w.born(p)
		}
	}
	if len(w.pool) > 300 {
		w.pool = slices.Clone(w.pool[100:])
	}
}

func wildBlob(r *rand.Rand) []byte {
	return bytes.Repeat([]byte{byte('a' + r.Intn(26))}, []int{0, 1, 10, 248, 249, 496, 3000, api.MaxBlob, api.MaxBlob + 1}[r.Intn(9)])
}

func TestWild(t *testing.T) {
	r := rand.New(rand.NewSource(3))
	took := map[api.Errno]int{}
	for range 250 {
		w := wilder(t, r)
		s := story{r: r, c: w.c}
		for range 10 {
			lost := s.weather()
			for range 2 + r.Intn(12) {
				w.turn(lost)
			}
		}
		for e, n := range w.took {
			took[e] += n
		}
	}
	for _, e := range []api.Errno{
		api.OK, api.ErrHalted, api.ErrSum, api.ErrMisled, api.ErrStranger, api.ErrStale, api.ErrOld, api.ErrSet, api.ErrFrozen,
		api.ErrSender, api.ErrTag, api.ErrFar, api.ErrPrev, api.ErrFork, api.ErrArg, api.ErrGap,
	} {
		if took[e] == 0 {
			t.Errorf("no Receive of %v answered the error %d: the test is too weak", took, e)
		}
	}
}

package replica_test

import (
	"bytes"
	"fmt"
	"math/rand"
	"slices"
	"testing"

	"quorate/api"
	"quorate/machine"
	"quorate/replica"
)

// twin is a replica and its model, and how often which answers came.
type twin struct {
	t    testing.TB
	r    *replica.Replica
	m    *model
	rand *rand.Rand
	seen map[string]int
	body int // commands that were made up
}

// look holds all that the replica tells against the model.
func (w *twin) look(what string) {
	w.t.Helper()
	wantFace(w.t, what, faceOf(w.r), w.m.face())
	for _, x := range w.m.marks {
		w.seen[fmt.Sprintf("mark %d", x.Kind)]++
	}
	for _, x := range w.m.records {
		w.seen[fmt.Sprintf("record %d", x.Kind)]++
	}
	wantMarks(w.t, w.r, w.m.marks...)
	wantRecords(w.t, w.r, w.m.records...)
	w.m.marks, w.m.records = nil, nil
}

func (w *twin) take(n api.Note) {
	w.t.Helper()
	mode := w.m.mode
	want := w.m.take(n)
	if e := w.r.Take(n); e != want {
		w.t.Fatalf("R3: Take(%+v) in mode %d: error %d, want %d", n, mode, e, want)
	}
	w.seen[fmt.Sprintf("note %d: error %d", min(max(n.Kind, 0), 6), want)]++
	if len(w.m.marks) > 1 && w.m.marks[0].Kind == api.MarkAdopt {
		w.seen["answered at the switch"]++
	}
	w.look(fmt.Sprintf("behind %+v in mode %d", n, mode))
}

func (w *twin) submit(c api.Command) {
	w.t.Helper()
	n, want := w.m.submit(c)
	wantSubmit(w.t, w.r, c, n, want)
	w.seen[fmt.Sprintf("submit: error %d", want)]++
	w.look("behind Submit")
}

func (w *twin) sent() {
	w.t.Helper()
	w.m.sent()
	w.r.Sent()
	w.look("behind Sent")
}

// commandOf makes up one of a client.
func (w *twin) commandOf(client, inc int) api.Command {
	w.body++
	key := string(rune('a' + w.rand.Intn(6)))
	switch w.rand.Intn(4) {
	case 0:
		return cmd(client, inc, 1+w.body/4, api.OpLock, key)
	case 1:
		return cmd(client, inc, 1+w.rand.Intn(9), api.OpGet, key)
	}
	return set(client, inc, 1+w.rand.Intn(9), key, fmt.Sprint(w.body%1000))
}

// state makes up one: what the replica has, or another log.
func (w *twin) state(epoch int) api.State {
	s := w.m.state()
	if w.rand.Intn(3) > 0 {
		var l []api.Command
		for range w.rand.Intn(20) {
			l = append(l, w.commandOf(w.rand.Intn(4), 1+w.rand.Intn(2)))
		}
		if len(w.m.pending) > 0 && w.rand.Intn(2) == 0 {
			l = append(l, w.m.pending[0])
		}
		base := w.rand.Intn(len(l) + 1)
		s = state(0, max(base, len(l)-16), l...)
		s.Base += w.rand.Intn(2) * w.m.base
	}
	s.Epoch = w.rand.Intn(epoch + 2 - w.rand.Intn(3)/2)
	if w.rand.Intn(40) == 0 {
		s.Base = api.MaxCount - w.rand.Intn(18)
	}
	return s
}

// spoilt changes bytes a little.
func (w *twin) spoilt(b []byte) []byte {
	b = bytes.Clone(b)
	if len(b) == 0 {
		return b
	}
	at := w.rand.Intn(len(b))
	switch w.rand.Intn(5) {
	case 0:
		b[at] ^= 1 << w.rand.Intn(8)
	case 1:
		b = b[:at]
	case 2:
		b = append(b, byte(w.rand.Intn(3)))
	case 3:
		b = slices.Insert(b, at, byte(w.rand.Intn(256)))
	case 4:
		b = slices.Delete(b, at, at+1)
	}
	return b
}

// view makes up one that can mostly be installed.
func (w *twin) view() api.View {
	epoch := w.rand.Intn(3)
	if len(w.m.views) > 0 {
		epoch += w.m.view().ID.Epoch
	}
	var l []api.Member
	for p := range w.m.c.Nodes {
		x := api.Member{Pid: p, Inc: 1 + w.rand.Intn(2), Cid: 1 + w.rand.Intn(5)}
		if p == w.m.self {
			x.Inc = w.m.inc
		}
		if p == w.m.self || w.rand.Intn(3) > 0 {
			l = append(l, x)
		}
	}
	v := view(epoch, l...)
	switch at := w.rand.Intn(len(l)); w.rand.Intn(20) {
	case 0:
		*[]*int{&v.ID.Epoch, &v.ID.Lead, &v.ID.Inc, &v.ID.Cid, &l[at].Pid, &l[at].Inc, &l[at].Cid}[w.rand.Intn(7)] += w.rand.Intn(5) - 2
	case 1:
		*[]*int{&v.ID.Epoch, &v.ID.Lead, &v.ID.Inc, &v.ID.Cid, &l[at].Pid, &l[at].Inc, &l[at].Cid}[w.rand.Intn(7)] = far()[w.rand.Intn(len(far()))]
	case 2:
		v.Members = slices.Delete(slices.Clone(l), at, at+1)
	}
	return v
}

// delivery makes up one of a member, or what Next tells.
func (w *twin) delivery() api.Note {
	n := deliver(w.rand.Intn(w.m.c.Nodes), w.m.last+1+w.rand.Intn(3), nil)
	epoch, inc := 1, 1
	if len(w.m.views) > 0 {
		x := w.m.view().Members[w.rand.Intn(len(w.m.view().Members))]
		epoch, inc = w.m.view().ID.Epoch, x.Inc
		if w.rand.Intn(20) > 0 {
			n.Sender = x.Pid
		}
	}
	switch w.rand.Intn(12) {
	case 0:
		n.Body = stateBlob(w.state(epoch))
	case 1:
		n.Body = commandBlob(w.rand.Intn(w.m.length()+2), w.commandOf(w.rand.Intn(w.m.c.Nodes), inc))
	case 2:
		n.Sender = w.m.self
		n.Body, _ = w.m.next()
	case 3:
		c := w.commandOf(w.m.self, w.m.inc)
		c.Req = max(1, w.m.requests)
		n.Sender, n.Body = w.m.self, commandBlob(w.m.base, c)
	default:
		n.Body = commandBlob(w.m.base+w.rand.Intn(len(w.m.tail)+1), w.commandOf(n.Sender, inc))
		if w.m.mode == api.ModeJoining {
			n.Body = stateBlob(w.state(epoch))
		}
	}
	if w.rand.Intn(25) == 0 {
		n.Pos = w.m.last - w.rand.Intn(3)
	}
	if w.rand.Intn(8) == 0 {
		n.Body = w.spoilt(n.Body)
	}
	return n
}

// step makes one call of any kind.
func (w *twin) step() {
	w.t.Helper()
	switch k := w.rand.Intn(40); {
	case k < 3:
		w.take(install(w.view()))
	case k < 25:
		w.take(w.delivery())
	case k < 28:
		w.take(safe(w.m.last + 1 - w.rand.Intn(4)))
	case k < 29:
		w.take(safe(far()[w.rand.Intn(len(far()))]))
	case k < 33:
		w.submit(w.commandOf(w.rand.Intn(4), w.rand.Intn(4)))
	case k < 34:
		w.submit(api.Command{Op: w.rand.Intn(12) - 1, Key: "123456789"[:w.rand.Intn(10)], Old: "x"[:w.rand.Intn(2)]})
	case k < 37:
		w.sent()
	case k < 38:
		w.take(api.Note{Kind: []int{-1, 0, 1, 6, 7, 1 << 32}[w.rand.Intn(6)], View: viewOf(90, 0), Pos: 1})
	case k < 39 && w.rand.Intn(100) == 0:
		w.take(api.Note{Kind: api.NoteHalt})
	default:
		n := w.delivery()
		n.Kind, n.View, n.Trans, n.Lost, n.Seq = 1+w.rand.Intn(4), w.view(), []int{1}, 3, -1
		w.take(n)
	}
}

// again makes the replica anew from its checkpoint and some records more, as an incarnation behind it would be made.
func (w *twin) again(c api.Config, self, inc int, l []api.Record) {
	w.t.Helper()
	m, want := newModel(c, self, inc, l)
	r, e := replica.New(c, self, inc, l)
	if e != want || (r == nil) != (m == nil) {
		w.t.Fatalf("R2: New(%+v, %d, %d, %v) = %v, error %d, want error %d", c, self, inc, l, r, e, want)
	}
	if n := replica.Promise(l); n != promiseOf(l) {
		w.t.Fatalf("R1: Promise of %v is %d, want %d", l, n, promiseOf(l))
	}
	w.seen[fmt.Sprintf("new: error %d", want)]++
	if e != api.OK {
		return
	}
	w.r, w.m = r, m
	w.look("behind New")
}

// TestModel: R1 to R9 and P1, replicas against the model, through whatever calls.
func TestModel(t *testing.T) {
	seen := map[string]int{}
	for seed := range 300 {
		w := &twin{t: t, rand: rand.New(rand.NewSource(int64(seed))), seen: seen}
		c := config(1 + w.rand.Intn(4))
		if seed%10 == 0 {
			c = config(16)
		}
		for p := range c.Votes {
			c.Votes[p] = w.rand.Intn(4)
		}
		c.Votes[w.rand.Intn(c.Nodes)] = 2
		self := w.rand.Intn(c.Nodes)
		w.again(c, self, 1, nil)
		for n := range 400 {
			w.step()
			if n%100 == 99 {
				w.again(c, self, 1+n/100, w.records())
			}
		}
	}
	for _, what := range []string{
		"note 0: error 143", "note 6: error 143", "note 1: error 0", "note 1: error 2", "note 2: error 0", "note 2: error 143", "note 2: error 2",
		"note 3: error 0", "note 3: error 142", "note 3: error 143", "note 3: error 2", "note 4: error 0", "note 4: error 143", "note 4: error 2", "note 5: error 0",
		"submit: error 0", "submit: error 2", "submit: error 130", "submit: error 140", "submit: error 141", "new: error 0", "new: error 121",
		"mark 10", "mark 12", "mark 13", "record 1", "record 2", "record 3", "record 4", "answered at the switch",
	} {
		if seen[what] < 10 {
			t.Errorf("the test is too weak: %q came %d times", what, seen[what])
		}
	}
}

// records are the present checkpoint, and some more that mostly can be replayed.
func (w *twin) records() []api.Record {
	l := []api.Record{w.r.Checkpoint()}
	length := w.m.length()
	for range w.rand.Intn(30) {
		switch w.rand.Intn(8) {
		case 0:
			l = append(l, recPromise(w.rand.Intn(9)))
		case 1, 2, 3:
			l = append(l, recAppend(w.commandOf(w.rand.Intn(4), 1)))
			length++
		case 4, 5:
			l = append(l, recSafe(length))
		case 6:
			l = append(l, recSafe(max(0, length-w.rand.Intn(3))))
		case 7:
			s := w.state(3)
			l = append(l, recState(w.rand.Intn(9), s))
			length = s.Base + len(s.Tail)
		}
	}
	if w.rand.Intn(4) == 0 {
		x := &l[w.rand.Intn(len(l))]
		x.Body = w.spoilt(x.Body)
	}
	if w.rand.Intn(8) == 0 {
		l[w.rand.Intn(len(l))].Kind = w.rand.Intn(7) - 1
	}
	return l
}

// TestAnyBytes: P1 and P12, any bytes as bodies of notes and of records.
func TestAnyBytes(t *testing.T) {
	r := rand.New(rand.NewSource(5))
	x := adopted(t, config(3), 0, viewOf(2, 0, 1), state(0, 0))
	y := joining(t, config(3), 0, viewOf(2, 0, 1))
	for n := range 60000 {
		b := make([]byte, r.Intn(40))
		r.Read(b)
		if n%2 == 0 && len(b) > 0 {
			b[0] = byte(1 + r.Intn(2))
			for i := 1; i < len(b); i++ {
				b[i] %= 12
			}
		}
		refusedAs(t, x, b, n)
		refusedAs(t, y, b, n)
		for kind := -1; kind < 6; kind++ {
			l := []api.Record{{Kind: kind, Body: b}}
			_, want := newModel(config(3), 0, 1, l)
			if got, e := replica.New(config(3), 0, 1, l); e != want || (got == nil) == (e == api.OK) {
				t.Fatalf("R2: New of {%d % x}: error %d, want %d", kind, b, e, want)
			}
			if n := replica.Promise(l); n != promiseOf(l) {
				t.Fatalf("R1: Promise of {%d % x} is %d, want %d", kind, b, n, promiseOf(l))
			}
		}
	}
}

// refusedAs looks whether bytes that are no blob are refused as such.
func refusedAs(t *testing.T, r *replica.Replica, b []byte, n int) {
	t.Helper()
	_, isOne := asState(b)
	_, _, isOther := asCommand(b)
	if isOne || isOther {
		return
	}
	if e := r.Take(deliver(n%2, 1000, b)); e != api.ErrState {
		t.Fatalf("R3: a delivery of % x: error %d, want %d", b, e, api.ErrState)
	}
}

// TestLargeBytes: P1, bodies beyond all bounds.
func TestLargeBytes(t *testing.T) {
	r := joining(t, config(3), 0, viewOf(2, 0, 1))
	for _, head := range [][]byte{{}, {0}, {1}, {2}, {1, 0, 0}, counts(1, 0, 0, 1<<20), counts(1, 0, 0, 1<<62), counts(1, 0, 0, 1<<62-1), join(counts(1, 0, 0), list(machine.New().Snapshot()), counts(1<<62))} {
		for _, size := range []int{0, 3000, 3001, 1 << 20} {
			refused(t, r, deliver(0, 1, join(head, make([]byte, size))), api.ErrState)
			for kind := range 6 {
				replica.New(config(3), 0, 1, []api.Record{{Kind: kind, Body: join(head, make([]byte, size))}})
			}
		}
	}
}

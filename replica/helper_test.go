package replica_test

import (
	"bytes"
	"encoding/binary"
	"math"
	"slices"
	"testing"

	"quorate/api"
	"quorate/machine"
	"quorate/replica"
)

// far are numbers that no chapter allows as a count.
func far() []int {
	return []int{math.MinInt, math.MinInt + 1, -api.MaxCount, -1 << 32, -256, -2, -1, api.MaxCount + 1, math.MaxInt - 1, math.MaxInt}
}

// config: so many nodes with one vote each.
func config(nodes int) api.Config {
	return api.Config{Nodes: nodes, Window: 2, Base: 2, Step: 1, Cap: 8, Room: 100, Votes: slices.Repeat([]int{1}, nodes)}
}

func made(t testing.TB, c api.Config, self, inc int, l ...api.Record) *replica.Replica {
	t.Helper()
	r, e := replica.New(c, self, inc, l)
	if r == nil || e != api.OK {
		t.Fatalf("R2: New(%+v, %d, %d, %v): error %d, want a replica", c, self, inc, l, e)
	}
	return r
}

// cmd is a command of client.inc.req: what it asks for, Val and Old as far as they are given.
func cmd(client, inc, req, op int, key string, texts ...string) api.Command {
	texts = append(texts, "", "")
	return api.Command{Client: client, Inc: inc, Req: req, Op: op, Key: key, Val: texts[0], Old: texts[1]}
}

// set is a command OpSet.
func set(client, inc, req int, key, val string) api.Command {
	return cmd(client, inc, req, api.OpSet, key, val)
}

// many are commands that differ, of many clients.
func many(n int) []api.Command {
	var l []api.Command
	for i := range n {
		l = append(l, set(i%16, 1+i/160, 1+i%160/16, string(rune('a'+i%26)), string(rune('A'+i/26%26))))
	}
	return l
}

func join(l ...[]byte) []byte { return bytes.Join(l, nil) }

// counts writes numbers as chapter 1 says.
func counts(l ...int) []byte {
	var b []byte
	for _, n := range l {
		b = binary.AppendUvarint(b, uint64(n))
	}
	return b
}

// list writes bytes behind their length.
func list(b []byte) []byte { return append(counts(len(b)), b...) }

// text is a command's text, in the words of 13.1, also where the command is not valid.
func text(c api.Command) []byte {
	return join(counts(c.Client, c.Inc, c.Req, c.Op), list([]byte(c.Key)), list([]byte(c.Val)), list([]byte(c.Old)))
}

// stateText is what a state's blob and a checkpoint have in common.
func stateText(s api.State) []byte {
	b := join(counts(s.Epoch, s.Base), list(s.Snapshot), counts(len(s.Tail)))
	for _, c := range s.Tail {
		b = append(b, list(text(c))...)
	}
	return b
}

func stateBlob(s api.State) []byte { return join([]byte{1}, stateText(s)) }

func commandBlob(safe int, c api.Command) []byte { return join([]byte{2}, counts(safe), text(c)) }

func recState(promise int, s api.State) api.Record {
	return api.Record{Kind: api.RecState, Body: join(counts(promise), stateText(s))}
}

func recAppend(c api.Command) api.Record { return api.Record{Kind: api.RecAppend, Body: text(c)} }

func recSafe(n int) api.Record { return api.Record{Kind: api.RecSafe, Body: counts(n)} }

func recPromise(n int) api.Record { return api.Record{Kind: api.RecPromise, Body: counts(n)} }

// shot is the snapshot of a machine that did these commands.
func shot(l ...api.Command) []byte {
	m := machine.New()
	for _, c := range l {
		m.Apply(c)
	}
	return m.Snapshot()
}

// state is one of the log of these commands, the first of them done.
func state(epoch, base int, l ...api.Command) api.State {
	return api.State{Epoch: epoch, Base: base, Snapshot: shot(l[:base]...), Tail: l[base:]}
}

func view(epoch int, l ...api.Member) api.View {
	return api.View{ID: api.ViewID{Epoch: epoch, Lead: l[0].Pid, Inc: l[0].Inc, Cid: l[0].Cid}, Members: l}
}

// viewOf is one of these nodes, all of incarnation 1.
func viewOf(epoch int, pids ...int) api.View {
	var l []api.Member
	for _, p := range pids {
		l = append(l, api.Member{Pid: p, Inc: 1, Cid: 1 + p})
	}
	return view(epoch, l...)
}

func install(v api.View) api.Note { return api.Note{Kind: api.NoteInstall, View: v} }

func deliver(sender, pos int, body []byte) api.Note {
	return api.Note{Kind: api.NoteDeliver, Sender: sender, Pos: pos, Body: body}
}

func safe(pos int) api.Note { return api.Note{Kind: api.NoteSafe, Pos: pos} }

func apply(n int, c api.Command, result api.Result) api.Mark {
	return api.Mark{Kind: api.MarkApply, N: n, Cmd: c, Result: result}
}

func reply(c api.Command, result api.Result) api.Mark {
	return api.Mark{Kind: api.MarkReply, Cmd: c, Result: result}
}

func adopt(id api.ViewID, length, base int) api.Mark {
	return api.Mark{Kind: api.MarkAdopt, ID: id, N: length, Pos: base}
}

var done = api.Result{Code: api.ResDone}

func sameMark(a, b api.Mark) bool {
	listed := len(a.Members) + len(a.Trans) + len(a.Body) + len(b.Members) + len(b.Trans) + len(b.Body)
	return listed == 0 && a.At == b.At && a.Kind == b.Kind && a.Node == b.Node && a.Inc == b.Inc && a.ID == b.ID && a.Sender == b.Sender &&
		a.Seq == b.Seq && a.Pos == b.Pos && a.N == b.N && a.Cmd == b.Cmd && a.Result == b.Result && a.Err == b.Err
}

func sameRecord(a, b api.Record) bool { return a.Kind == b.Kind && bytes.Equal(a.Body, b.Body) }

func wantMarks(t testing.TB, r *replica.Replica, want ...api.Mark) {
	t.Helper()
	if l := r.Marks(); !slices.EqualFunc(l, want, sameMark) {
		t.Fatalf("R8: the marks are %+v, want %+v", l, want)
	}
	if l := r.Marks(); len(l) > 0 {
		t.Fatalf("R8: marks come twice: %+v", l)
	}
}

func wantRecords(t testing.TB, r *replica.Replica, want ...api.Record) {
	t.Helper()
	if l := r.Records(); !slices.EqualFunc(l, want, sameRecord) {
		t.Fatalf("R8: the records are %v, want %v", l, want)
	}
	if l := r.Records(); len(l) > 0 {
		t.Fatalf("R8: records come twice: %v", l)
	}
}

func wantStatus(t testing.TB, r *replica.Replica, want api.Status) {
	t.Helper()
	if s := r.Status(); s != want {
		t.Fatalf("R9: the status is %+v, want %+v", s, want)
	}
}

func wantLog(t testing.TB, r *replica.Replica, want ...api.Command) {
	t.Helper()
	if l := r.Log(); !slices.Equal(l, want) {
		t.Fatalf("R9: the log is %+v, want %+v", l, want)
	}
}

// wantNext looks at Next, twice: it changes nothing. No blob: nil.
func wantNext(t testing.TB, r *replica.Replica, want []byte) {
	t.Helper()
	for range 2 {
		if b, ok := r.Next(); ok != (want != nil) || !bytes.Equal(b, want) || !ok && b != nil {
			t.Fatalf("R6: Next is % x, %v, want % x", b, ok, want)
		}
	}
}

func wantSubmit(t testing.TB, r *replica.Replica, c api.Command, want int, wantE api.Errno) {
	t.Helper()
	if n, e := r.Submit(c); n != want || e != wantE {
		t.Fatalf("R5: Submit(%+v) = %d, error %d, want %d, error %d", c, n, e, want, wantE)
	}
}

func taken(t testing.TB, r *replica.Replica, l ...api.Note) {
	t.Helper()
	for _, n := range l {
		if e := r.Take(n); e != api.OK {
			t.Fatalf("R3: Take(%+v): error %d", n, e)
		}
	}
}

// face is all that a replica tells without changing.
type face struct {
	status     api.Status
	log        []api.Command
	snapshot   []byte
	pairs      []api.Pair
	checkpoint api.Record
	next       []byte
	hasNext    bool
}

func faceOf(r *replica.Replica) face {
	f := face{status: r.Status(), log: r.Log(), snapshot: r.Snapshot(), pairs: r.Pairs(), checkpoint: r.Checkpoint()}
	f.next, f.hasNext = r.Next()
	return f
}

func wantFace(t testing.TB, what string, f, want face) {
	t.Helper()
	same := f.status == want.status && slices.Equal(f.log, want.log) && bytes.Equal(f.snapshot, want.snapshot) &&
		slices.Equal(f.pairs, want.pairs) && sameRecord(f.checkpoint, want.checkpoint) &&
		bytes.Equal(f.next, want.next) && f.hasNext == want.hasNext
	if !same {
		t.Fatalf("%s: it tells %+v, want %+v", what, f, want)
	}
}

// refused looks whether a note is refused, and whether nothing has changed then.
func refused(t testing.TB, r *replica.Replica, n api.Note, want api.Errno) {
	t.Helper()
	before := faceOf(r)
	if e := r.Take(n); e != want {
		t.Fatalf("R3: Take(%+v): error %d, want %d", n, e, want)
	}
	wantFace(t, "R3: behind a refused note", faceOf(r), before)
	if l, m := r.Records(), r.Marks(); len(l)+len(m) > 0 {
		t.Fatalf("R3: a refused note has told %v and %v", l, m)
	}
}

// quiet takes out what there is to be taken out.
func quiet(r *replica.Replica) {
	r.Marks()
	r.Records()
}

// joining is a replica in the view of its incarnation and others, that owes its state no more.
func joining(t testing.TB, c api.Config, self int, v api.View, l ...api.Record) *replica.Replica {
	t.Helper()
	inc := 0
	for _, m := range v.Members {
		if m.Pid == self {
			inc = m.Inc
		}
	}
	r := made(t, c, self, inc, l...)
	taken(t, r, install(v))
	r.Sent()
	quiet(r)
	return r
}

// adopted is a replica that has switched at the position of its last member's state, all of them the same.
func adopted(t testing.TB, c api.Config, self int, v api.View, s api.State) *replica.Replica {
	t.Helper()
	r := joining(t, c, self, v)
	for i, m := range v.Members {
		taken(t, r, deliver(m.Pid, i+1, stateBlob(s)))
	}
	quiet(r)
	return r
}

// active is one that is active too; what was adopted is done.
func active(t testing.TB, c api.Config, self int, v api.View, s api.State) *replica.Replica {
	t.Helper()
	r := adopted(t, c, self, v, s)
	taken(t, r, safe(len(v.Members)))
	quiet(r)
	return r
}

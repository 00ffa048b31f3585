package node

import (
	"bytes"
	"fmt"
	"slices"
	"strings"
	"testing"

	"quorate/api"
	"quorate/journal"
)

// fake stands in for a group and a replica: it keeps what is called, in its order, and answers what it is told to.
type fake struct {
	calls   []string
	panics  string         // the call that panics
	notes   [][]api.Note   // what each Poll answers
	outs    []api.Out      // what Tick answers
	err     api.Errno      // what Tick, Receive and Leave answer
	takes   []api.Errno    // what each Send answers; OK behind them
	blobs   []string       // what Next has, one behind the other
	taken   []api.Note     // what the replica was handed
	refuses api.Errno      // what Take and Submit answer
	records [][]api.Record // of each note
	marks   [][]api.Mark
	kind    int // of the checkpoint
}

func (f *fake) call(name string) {
	f.calls = append(f.calls, name)
	if name == f.panics {
		panic(name)
	}
}

// first takes the first thing out of a list; the zero value, if there is none.
func first[T any](l *[]T) T {
	var x T
	if len(*l) > 0 {
		x, *l = (*l)[0], (*l)[1:]
	}
	return x
}

func (f *fake) Tick() ([]api.Out, api.Errno) {
	f.call("Tick")
	return f.outs, f.err
}

func (f *fake) Receive(b []byte) api.Errno {
	f.call("Receive " + string(b))
	return f.err
}

func (f *fake) Send(blob []byte) (int, api.Errno) {
	f.call("Send " + string(blob))
	if e := first(&f.takes); e != api.OK {
		return 0, e
	}
	return 70, api.OK
}

func (f *fake) Poll() []api.Note {
	f.call("Poll")
	return first(&f.notes)
}

func (f *fake) Leave() api.Errno {
	f.call("Leave")
	return f.err
}

func (f *fake) View() api.View { return api.View{} }

func (f *fake) Take(n api.Note) api.Errno {
	f.call(fmt.Sprint("Take ", n.Kind))
	f.taken = append(f.taken, n)
	return f.refuses
}

func (f *fake) Submit(c api.Command) (int, api.Errno) {
	f.call("Submit " + c.Key)
	if f.refuses != api.OK {
		return 0, f.refuses
	}
	return 5, api.OK
}

func (f *fake) Next() ([]byte, bool) {
	f.call("Next")
	if len(f.blobs) == 0 {
		return nil, false
	}
	return []byte(f.blobs[0]), true
}

func (f *fake) Sent() {
	f.call("Sent")
	first(&f.blobs)
}

func (f *fake) Marks() []api.Mark {
	f.call("Marks")
	return first(&f.marks)
}

func (f *fake) Records() []api.Record {
	f.call("Records")
	return first(&f.records)
}

func (f *fake) Checkpoint() api.Record {
	f.call("Checkpoint")
	return api.Record{Kind: f.kind}
}

func (f *fake) Status() api.Status { return api.Status{} }

// over is the incarnation 6 of node 2, made of a fake.
func over(f *fake) *Node {
	j, _ := journal.New()
	return &Node{in: whole{groupFace: f, replicaFace: f, journal: j, self: 2, inc: 6}}
}

func (f *fake) want(t *testing.T, what, calls string) {
	t.Helper()
	if got := strings.Join(f.calls, ", "); got != calls {
		t.Errorf("%s: the calls are\n%s\nwant\n%s", what, got, calls)
	}
	f.calls = nil
}

// told are the kinds of marks; each must be the node's.
func told(t *testing.T, o api.Output) []int {
	t.Helper()
	var l []int
	for _, m := range o.Marks {
		if m.Node != 2 || m.Inc != 6 || m.At != 0 {
			t.Errorf("15.1: the mark %+v, want one of 2/6 without At", m)
		}
		l = append(l, m.Kind)
	}
	return l
}

func safe(pos int) api.Note { return api.Note{Kind: api.NoteSafe, Pos: pos} }

func promise(n byte) api.Record { return api.Record{Kind: api.RecPromise, Body: []byte{n}} }

func TestSettleOrder(t *testing.T) {
	f := &fake{
		notes:   [][]api.Note{{safe(1), safe(2)}, nil, {safe(3)}},
		blobs:   []string{"a", "b", "c"},
		takes:   []api.Errno{api.OK, api.OK, api.ErrBusy},
		records: [][]api.Record{{promise(1), promise(2)}, {promise(3)}, {promise(4)}},
		marks:   [][]api.Mark{{{Kind: api.MarkAdopt}}, {{Kind: api.MarkApply}, {Kind: api.MarkReply}}},
		outs:    []api.Out{{Dst: 1}},
	}
	o := over(f).Step(api.Input{Kind: api.InTick})
	each := "Take 4, Records, Marks, "
	f.want(t, "15.4: one note behind the other, then the blobs, again and again", "Tick, "+
		"Poll, "+each+each+"Next, Send \x01a, Sent, Next, Send \x01b, Sent, Next, Send \x01c, "+
		"Poll, Next, Send \x01c, Sent, Next, "+
		"Poll, "+each+"Next, "+
		"Poll, Next")
	if l := told(t, o); !slices.Equal(l, []int{api.MarkSafe, api.MarkAdopt, api.MarkSafe, api.MarkApply, api.MarkReply, api.MarkSend, api.MarkSend, api.MarkSend, api.MarkSafe}) {
		t.Errorf("15.4: the kinds of the marks are %v", l)
	}
	var written []byte
	for _, w := range o.Write {
		written = append(written, w.Bytes[4])
	}
	if !bytes.Equal(written, []byte{1, 2, 3, 4}) || len(o.Out) != 1 || o.Err != api.OK {
		t.Errorf("15.4: the records %v are written, %d packets, error %d", written, len(o.Out), o.Err)
	}
}

// TestBlobWaits: 15.4: a blob that the group does not take waits, and is not taken for sent.
func TestBlobWaits(t *testing.T) {
	for _, e := range []api.Errno{api.ErrBusy, api.ErrBlocked, api.ErrHalted, api.ErrBlob} {
		f := &fake{blobs: []string{"a"}, takes: []api.Errno{e}}
		n := over(f)
		o := n.Step(api.Input{Kind: api.InTick})
		f.want(t, "15.4", "Tick, Poll, Next, Send \x01a")
		if len(o.Marks)+len(o.Write) > 0 || o.Err != api.OK {
			t.Errorf("15.4: a blob that waits: %+v", o)
		}
		o = n.Step(api.Input{Kind: api.InTick})
		f.want(t, "15.4", "Tick, Poll, Next, Send \x01a, Sent, Next, Poll, Next")
		if l := told(t, o); !slices.Equal(l, []int{api.MarkSend}) || o.Marks[0].Seq != 70 {
			t.Errorf("P15.3: the marks are %+v", o.Marks)
		}
	}
}

// TestAllKindsSettle: P15.4: every kind of step ends with settling, be it refused or not.
func TestAllKindsSettle(t *testing.T) {
	for _, e := range []api.Errno{api.OK, api.ErrBlocked} {
		for in, calls := range map[int]string{
			api.InTick: "Tick", api.InPacket: "Receive body", api.InSend: "Next, Send \x00body", api.InDo: "Submit key", api.InLeave: "Leave",
		} {
			f := &fake{err: e, refuses: e, takes: []api.Errno{e}, notes: [][]api.Note{{safe(1)}}}
			o := over(f).Step(api.Input{Kind: in, Bytes: []byte("body"), Cmd: api.Command{Key: "key"}})
			f.want(t, "P15.4", calls+", Poll, Take 4, Records, Marks, Next, Poll, Next")
			if l := told(t, o); l[len(l)-1] != api.MarkSafe || o.Err != e {
				t.Errorf("P15.4: an input of the kind %d: the marks %v, error %d", in, l, o.Err)
			}
			if e != api.OK && in == api.InLeave && len(o.Marks) != 1 {
				t.Errorf("P15.2: a refused InLeave tells %+v", o.Marks)
			}
		}
	}
	f := &fake{blobs: []string{"a"}, takes: []api.Errno{api.ErrBlocked}}
	if o := over(f).Step(api.Input{Kind: api.InSend}); o.Err != api.ErrBusy || !slices.Equal(told(t, o), []int{api.MarkRefuse}) || o.Marks[0].Err != api.ErrBusy {
		t.Errorf("P15.2: a blob waits: %+v", o)
	}
	f.want(t, "P15.2: a blob waits", "Next, Poll, Next, Send \x01a")
	f = &fake{notes: [][]api.Note{{safe(1)}}}
	over(f).Step(api.Input{Kind: 6})
	f.want(t, "P15.2: no input", "")
}

// notesOfAllKinds are those of two views.
func notesOfAllKinds() []api.Note {
	v := api.View{ID: api.ViewID{Epoch: 4, Lead: 2, Inc: 6, Cid: 3}, Members: []api.Member{{Pid: 2, Inc: 6, Cid: 3}}}
	w := api.View{ID: api.ViewID{Epoch: 5, Lead: 1, Inc: 1, Cid: 8}, Members: []api.Member{{Pid: 1, Inc: 1, Cid: 8}, {Pid: 2, Inc: 6, Cid: 4}}}
	return []api.Note{
		{Kind: api.NoteInstall, View: v, Trans: []int{2}},
		{Kind: api.NoteDeliver, Sender: 2, Seq: 1, Pos: 1, Body: []byte("\x01\x01one")},
		{Kind: api.NoteBlock},
		{Kind: api.NoteDeliver, Sender: 2, Seq: 2, Pos: 3, Body: []byte("\x00two")},
		{Kind: api.NoteDeliver, Sender: 2, Seq: 3, Pos: 4, Body: nil},
		{Kind: api.NoteInstall, View: w, Trans: []int{1, 2}, Lost: 7},
		{Kind: api.NoteDeliver, Sender: 1, Seq: 1, Pos: 1, Body: []byte("\x02three")},
		{Kind: api.NoteDeliver, Sender: 1, Seq: 2, Pos: 2, Body: []byte("\x01")},
		{Kind: api.NoteDeliver, Sender: 1, Seq: 3, Pos: 5, Body: []byte("\xff\x01")},
		{Kind: api.NoteSafe, Pos: 2},
		{Kind: api.NoteHalt},
	}
}

// TestNoteTable: 15.4: how each note is told, and what the replica takes of it; what it refuses is let go.
func TestNoteTable(t *testing.T) {
	notes := notesOfAllKinds()
	v, w := notes[0].View, notes[5].View
	want := []api.Mark{
		{Kind: api.MarkInstall, ID: v.ID, Members: v.Members, Trans: []int{2}},
		{Kind: api.MarkDeliver, ID: v.ID, Sender: 2, Seq: 1, Pos: 1, Body: []byte("\x01\x01one")},
		{Kind: api.MarkBlock, ID: v.ID},
		{Kind: api.MarkDeliver, ID: v.ID, Sender: 2, Seq: 2, Pos: 3, Body: []byte("\x00two")},
		{Kind: api.MarkDeliver, ID: v.ID, Sender: 2, Seq: 3, Pos: 4},
		{Kind: api.MarkInstall, ID: w.ID, Members: w.Members, Trans: []int{1, 2}, N: 7},
		{Kind: api.MarkDeliver, ID: w.ID, Sender: 1, Seq: 1, Pos: 1, Body: []byte("\x02three")},
		{Kind: api.MarkDeliver, ID: w.ID, Sender: 1, Seq: 2, Pos: 2, Body: []byte("\x01")},
		{Kind: api.MarkDeliver, ID: w.ID, Sender: 1, Seq: 3, Pos: 5, Body: []byte("\xff\x01")},
		{Kind: api.MarkSafe, ID: w.ID, Pos: 2},
		{Kind: api.MarkHalt, N: 1},
	}
	taken := []api.Note{notes[0], notes[1], notes[2], notes[5], notes[7], notes[9], notes[10]}
	taken[1].Body, taken[4].Body = []byte("\x01one"), nil
	for _, refuses := range []api.Errno{api.OK, api.ErrNote, api.ErrState, api.ErrHalted} {
		f := &fake{notes: [][]api.Note{notesOfAllKinds()}, refuses: refuses, err: api.ErrHalted}
		n := over(f)
		o := n.Step(api.Input{Kind: api.InPacket})
		for i := range want {
			want[i].Node, want[i].Inc = 2, 6
		}
		if got, want := fmt.Sprintf("%+v", o.Marks), fmt.Sprintf("%+v", want); got != want {
			t.Errorf("15.4: the marks are\n%s\nwant\n%s", got, want)
		}
		if got, want := fmt.Sprintf("%+v", f.taken), fmt.Sprintf("%+v", taken); got != want {
			t.Errorf("15.4: the replica takes\n%s\nwant\n%s", got, want)
		}
		if !n.Halted() || o.Err != api.ErrHalted || len(o.Out)+len(o.Write) > 0 {
			t.Errorf("P15.6: behind NoteHalt: %v, %+v", n.Halted(), o)
		}
	}
}

// TestPresentView: 15.4: the present view of a note is that of the last install that was told, in an earlier step too; what is sent then is told in it.
func TestPresentView(t *testing.T) {
	v := notesOfAllKinds()[0]
	f := &fake{notes: [][]api.Note{{v}}}
	n := over(f)
	n.Step(api.Input{Kind: api.InTick})
	f.notes, f.blobs = [][]api.Note{{{Kind: api.NoteBlock}, safe(3)}}, []string{"a"}
	o := n.Step(api.Input{Kind: api.InTick})
	if l := told(t, o); !slices.Equal(l, []int{api.MarkBlock, api.MarkSafe, api.MarkSend}) {
		t.Fatalf("15.4: the marks are %+v", o.Marks)
	}
	for _, m := range o.Marks {
		if m.ID != v.View.ID {
			t.Errorf("15.4: the mark %+v, want the view %v", m, v.View.ID)
		}
	}
}

// TestHaltEndsSettling: P15.6: behind NoteHalt nothing more is done.
func TestHaltEndsSettling(t *testing.T) {
	f := &fake{err: api.ErrHalted, blobs: []string{"a"}, notes: [][]api.Note{{safe(1), {Kind: api.NoteHalt}, safe(2)}}, records: [][]api.Record{{promise(1)}}}
	n := over(f)
	o := n.Step(api.Input{Kind: api.InTick})
	f.want(t, "P15.6", "Tick, Poll, Take 4, Records, Marks, Take 5, Records, Marks")
	if l := told(t, o); !slices.Equal(l, []int{api.MarkSafe, api.MarkHalt}) || o.Marks[1].N != 1 || o.Err != api.ErrHalted || len(o.Write) != 1 || len(o.Out) > 0 {
		t.Errorf("P15.6: %+v", o)
	}
	for kind := range 8 {
		if o := n.Step(api.Input{Kind: kind}); o.Err != api.ErrHalted || len(o.Out)+len(o.Marks)+len(o.Write) > 0 {
			t.Errorf("P15.11: behind a halt: %+v", o)
		}
	}
	f.want(t, "P15.2: behind a halt", "")
}

// TestAppendRefuses: P15.5 and P15.6: the step ends at the record that the journal refuses. What was written and told up to there stays; packets there are none.
func TestAppendRefuses(t *testing.T) {
	for e, bad := range map[api.Errno]api.Record{
		api.ErrRecord: {Kind: 9},
		api.ErrLong:   {Kind: api.RecState, Body: make([]byte, api.MaxRecord)},
	} {
		f := &fake{
			outs:    []api.Out{{Dst: 1}},
			blobs:   []string{"a"},
			notes:   [][]api.Note{{safe(1), safe(2), safe(3)}},
			records: [][]api.Record{{promise(1)}, {promise(2), bad, promise(3)}},
			marks:   [][]api.Mark{{{Kind: api.MarkApply}}, {{Kind: api.MarkReply}}},
		}
		n := over(f)
		for n.in.journal.Size() < api.MaxFile-api.MaxRecord-8 {
			n.in.journal.Append(bad) // till there is no room for one more
			if bad.Kind == 9 {
				break
			}
		}
		o := n.in.step(api.Input{Kind: api.InPacket})
		f.want(t, "P15.6", "Receive , Poll, Take 4, Records, Marks, Take 4, Records")
		if l := told(t, o); !slices.Equal(l, []int{api.MarkSafe, api.MarkApply, api.MarkSafe, api.MarkHalt}) || o.Marks[3].N != 1 {
			t.Errorf("P15.6: the marks are %+v", o.Marks)
		}
		if len(o.Write) != 2 || o.Write[1].Bytes[4] != 2 || o.Err != e || len(o.Out) > 0 || !n.Halted() {
			t.Errorf("P15.6: the writes are %v, %d packets, error %d", o.Write, len(o.Out), o.Err)
		}
	}
	f := &fake{outs: []api.Out{{Dst: 1}}, notes: [][]api.Note{{safe(1)}}, records: [][]api.Record{{{}}}}
	if o := over(f).Step(api.Input{Kind: api.InTick}); len(o.Out) > 0 || o.Err != api.ErrRecord {
		t.Errorf("P15.6: a tick whose record is refused has %d packets, error %d", len(o.Out), o.Err)
	}
}

// TestCompactFirst: P15.2: a long journal is compacted ahead of the group's tick.
func TestCompactFirst(t *testing.T) {
	f := &fake{kind: api.RecState}
	n := over(f)
	makeLong(n)
	for kind := api.InPacket; kind <= api.InLeave; kind++ {
		n.Step(api.Input{Kind: kind})
	}
	f.calls = nil
	o := n.Step(api.Input{Kind: api.InTick})
	f.want(t, "P15.2", "Checkpoint, Tick, Poll, Next")
	if len(o.Write) != 1 || !o.Write[0].Start || n.in.journal.Generation() != 2 {
		t.Errorf("P15.2: the writes are %v", o.Write)
	}
}

func makeLong(n *Node) {
	for n.in.journal.Size() <= 16384 {
		n.in.journal.Append(api.Record{Kind: api.RecState, Body: make([]byte, 1000)})
	}
}

// TestCompactRefuses: P15.6: a tick whose checkpoint the journal refuses ends there; the group does not tick.
func TestCompactRefuses(t *testing.T) {
	f := &fake{kind: 9, outs: []api.Out{{Dst: 1}}, blobs: []string{"a"}, notes: [][]api.Note{{safe(1)}}}
	n := over(f)
	makeLong(n)
	o := n.Step(api.Input{Kind: api.InTick})
	f.want(t, "P15.6", "Checkpoint")
	if !slices.Equal(told(t, o), []int{api.MarkHalt}) || o.Marks[0].N != 1 || o.Err != api.ErrRecord || len(o.Out)+len(o.Write) > 0 || !n.Halted() {
		t.Errorf("P15.6: %+v, halted %v", o, n.Halted())
	}
}

// TestPanic: P15.7: whatever part panics, in whatever call, the node halts and tells just that.
func TestPanic(t *testing.T) {
	inputs := []int{api.InTick, api.InPacket, api.InSend, api.InDo, api.InLeave}
	caught := 0
	for _, call := range []string{"Tick", "Receive ", "Send \x00", "Send \x01a", "Poll", "Leave", "Take 2", "Submit ", "Next", "Sent", "Marks", "Records", "Checkpoint"} {
		for _, kind := range inputs {
			f := &fake{
				outs: []api.Out{{Dst: 1}}, notes: [][]api.Note{notesOfAllKinds()[:1]},
				records: [][]api.Record{{promise(1)}}, marks: [][]api.Mark{{{Kind: api.MarkApply}}}, panics: call,
			}
			if kind != api.InSend {
				f.blobs = []string{"a"}
			}
			n := over(f)
			if call == "Checkpoint" {
				makeLong(n)
			}
			o := n.Step(api.Input{Kind: kind})
			if f.calls[len(f.calls)-1] != call {
				continue // this input does not come there
			}
			caught++
			if !slices.Equal(told(t, o), []int{api.MarkHalt}) || o.Marks[0].N != 2 || o.Err != api.ErrHalted || len(o.Out)+len(o.Write) > 0 || !n.Halted() {
				t.Errorf("P15.7: a panic in %s: %+v, halted %v", call, o, n.Halted())
			}
			f.calls, f.panics = nil, ""
			if o := n.Step(api.Input{Kind: kind}); o.Err != api.ErrHalted || len(o.Out)+len(o.Marks)+len(o.Write) > 0 {
				t.Errorf("P15.7: behind a panic: %+v", o)
			}
			f.want(t, "P15.7: behind a panic", "")
		}
	}
	if caught < 35 {
		t.Errorf("%d panics: the test is too weak", caught)
	}
}

// TestPanicOfAPart: P15.7: a part that is missing.
func TestPanicOfAPart(t *testing.T) {
	for i := range 3 {
		n := over(&fake{notes: [][]api.Note{{safe(1)}}, records: [][]api.Record{{promise(1)}}})
		switch i {
		case 0:
			n.in.groupFace = nil
		case 1:
			n.in.replicaFace = nil
		case 2:
			n.in.journal = nil
		}
		o := n.Step(api.Input{Kind: api.InTick})
		if !slices.Equal(told(t, o), []int{api.MarkHalt}) || o.Marks[0].N != 2 || o.Err != api.ErrHalted || len(o.Out)+len(o.Write) > 0 || !n.Halted() {
			t.Errorf("P15.7: %+v, halted %v", o, n.Halted())
		}
	}
}

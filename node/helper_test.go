package node_test

import (
	"bytes"
	"encoding/binary"
	"fmt"
	"hash/crc32"
	"math"
	"slices"
	"strings"
	"testing"

	"quorate/api"
	"quorate/journal"
	"quorate/node"
	"quorate/replica"
	"quorate/script"
)

// far are numbers that no chapter allows as a count.
func far() []int {
	return []int{math.MinInt, math.MinInt + 1, -api.MaxCount, -1 << 32, -256, -2, -1, api.MaxCount + 1, math.MaxInt - 1, math.MaxInt}
}

// config is that of the chapter's examples, for so many nodes with one vote each.
func config(nodes int) api.Config {
	return api.Config{Nodes: nodes, Window: 4, Base: 2, Step: 1, Cap: 8, Room: 100, Votes: slices.Repeat([]int{1}, nodes)}
}

// The inputs.
var tick, leave = api.Input{Kind: api.InTick}, api.Input{Kind: api.InLeave}

func packet(b []byte) api.Input { return api.Input{Kind: api.InPacket, Bytes: b} }

func send(body string) api.Input { return api.Input{Kind: api.InSend, Bytes: []byte(body)} }

func do(op int, texts ...string) api.Input {
	texts = append(texts, "", "", "")
	return api.Input{Kind: api.InDo, Cmd: api.Command{Op: op, Key: texts[0], Val: texts[1], Old: texts[2]}}
}

// set is a command OpSet.
func set(client, inc, req int, key, val string) api.Command {
	return api.Command{Client: client, Inc: inc, Req: req, Op: api.OpSet, Key: key, Val: val}
}

func join(l ...[]byte) []byte { return bytes.Join(l, nil) }

// counts writes numbers as chapter 1 says.
func counts(l ...int) []byte {
	var b []byte
	for _, n := range l {
		b = binary.AppendUvarint(b, uint64(n))
	}
	return b
}

// list writes bytes behind their length.
func list(b []byte) []byte { return append(counts(len(b)), b...) }

// text is a command's, in the words of 13.1.
func text(c api.Command) []byte {
	return join(counts(c.Client, c.Inc, c.Req, c.Op), list([]byte(c.Key)), list([]byte(c.Val)), list([]byte(c.Old)))
}

// logText is what a state's blob and a checkpoint have in common.
func logText(epoch, base int, snapshot []byte, tail ...api.Command) []byte {
	b := join(counts(epoch, base), list(snapshot), counts(len(tail)))
	for _, c := range tail {
		b = append(b, list(text(c))...)
	}
	return b
}

func recState(promise, epoch, base int, snapshot []byte, tail ...api.Command) api.Record {
	return api.Record{Kind: api.RecState, Body: join(counts(promise), logText(epoch, base, snapshot, tail...))}
}

func recAppend(c api.Command) api.Record { return api.Record{Kind: api.RecAppend, Body: text(c)} }

func recSafe(n int) api.Record { return api.Record{Kind: api.RecSafe, Body: counts(n)} }

func recPromise(n int) api.Record { return api.Record{Kind: api.RecPromise, Body: counts(n)} }

// number is one of so many bytes, in the words of 12.2.
func number(size, n int) []byte { return binary.BigEndian.AppendUint64(nil, uint64(n))[8-size:] }

func sum(b []byte) []byte { return number(4, int(crc32.ChecksumIEEE(b))) }

// file is the bytes of one, of this generation, with these records; it was begun without any.
func file(generation int, records ...api.Record) []byte {
	b := join([]byte("qj"), number(8, generation), number(4, 0))
	b = append(b, sum(b)...)
	for _, r := range records {
		f := join([]byte{byte(r.Kind)}, number(2, len(r.Body)))
		f = join(f, []byte{0xa5 ^ f[0] ^ f[1] ^ f[2]}, r.Body)
		b = append(b, join(f, sum(join(b[len(b)-4:], f)))...)
	}
	return b
}

// disk is one with these records in its first file.
func disk(records ...api.Record) api.Disk { return api.Disk{A: file(1, records...)} }

func made(t testing.TB, c api.Config, self, inc int, d api.Disk) (*node.Node, api.Output) {
	t.Helper()
	n, o, e := node.New(c, self, inc, d)
	if n == nil || e != api.OK {
		t.Fatalf("P15.1: New(%+v, %d, %d, ..): error %d, want a node", c, self, inc, e)
	}
	return n, o
}

func sameMark(a, b api.Mark) bool {
	return a.At == b.At && a.Kind == b.Kind && a.Node == b.Node && a.Inc == b.Inc && a.ID == b.ID && slices.Equal(a.Members, b.Members) &&
		slices.Equal(a.Trans, b.Trans) && a.Sender == b.Sender && a.Seq == b.Seq && a.Pos == b.Pos && a.N == b.N && bytes.Equal(a.Body, b.Body) &&
		a.Cmd == b.Cmd && a.Result == b.Result && a.Err == b.Err
}

func sameWrite(a, b api.Write) bool {
	return a.File == b.File && a.Start == b.Start && bytes.Equal(a.Bytes, b.Bytes)
}

func sameOut(a, b api.Out) bool { return a.Dst == b.Dst && bytes.Equal(a.Bytes, b.Bytes) }

func sameOutput(a, b api.Output) bool {
	return slices.EqualFunc(a.Out, b.Out, sameOut) && slices.EqualFunc(a.Marks, b.Marks, sameMark) &&
		slices.EqualFunc(a.Write, b.Write, sameWrite) && a.Err == b.Err
}

func sameView(a, b api.View) bool { return a.ID == b.ID && slices.Equal(a.Members, b.Members) }

// lines tells marks as a trace does, without their At, and of long bodies just the beginning.
func lines(t testing.TB, marks []api.Mark) string {
	t.Helper()
	marks = slices.Clone(marks)
	for i, m := range marks {
		if len(m.Body) > 200 {
			marks[i].Body = fmt.Appendf(nil, "%s.. (%d)", m.Body[:8], len(m.Body))
		}
	}
	s, e := script.PrintTrace(marks)
	if e != api.OK {
		t.Fatalf("2.5: marks that cannot be told in a trace: %+v", marks)
	}
	l := strings.Split(strings.TrimSuffix(s, "\n"), "\n")[1:]
	for i := range l {
		at := ""
		if at, l[i], _ = strings.Cut(l[i], " "); at != "0" {
			t.Fatalf("15.1: a mark's At is %s", at)
		}
	}
	return strings.Join(l, "\n")
}

// wantOutput holds an output against its marks' lines, its writes' records, how many packets it has, and its error.
func wantOutput(t testing.TB, what string, o api.Output, marks []string, written []api.Record, packets int, e api.Errno) {
	t.Helper()
	if got, want := lines(t, o.Marks), strings.Join(marks, "\n"); got != want {
		t.Fatalf("%s: the marks are\n%s\nwant\n%s", what, got, want)
	}
	if got := appended(t, o.Write); !slices.EqualFunc(got, written, sameRecord) {
		t.Fatalf("%s: the records are %v, want %v", what, got, written)
	}
	if len(o.Out) != packets || o.Err != e {
		t.Fatalf("%s: %d packets, error %d, want %d, error %d", what, len(o.Out), o.Err, packets, e)
	}
}

func sameRecord(a, b api.Record) bool { return a.Kind == b.Kind && bytes.Equal(a.Body, b.Body) }

// appended are the records of writes that begin no file.
func appended(t testing.TB, ws []api.Write) []api.Record {
	t.Helper()
	var l []api.Record
	for _, w := range ws {
		if n := len(w.Bytes); w.Start || n < 8 || int(binary.BigEndian.Uint16(w.Bytes[1:])) != n-8 {
			t.Fatalf("12.3: a write that appends no record: %v", w)
		}
		l = append(l, api.Record{Kind: int(w.Bytes[0]), Body: w.Bytes[4 : len(w.Bytes)-4]})
	}
	return l
}

// silent: an output that has nothing but its error.
func silent(t testing.TB, what string, o api.Output, e api.Errno) {
	t.Helper()
	if o.Err != e || len(o.Out)+len(o.Marks)+len(o.Write) > 0 {
		t.Fatalf("%s: %+v, want the error %d alone", what, o, e)
	}
}

// kinds are those of marks.
func kinds(marks []api.Mark) []int {
	var l []int
	for _, m := range marks {
		l = append(l, m.Kind)
	}
	return l
}

// rig is a node with its disk.
type rig struct {
	*node.Node
	disk api.Disk
}

func rigged(t testing.TB, c api.Config, self, inc int, d api.Disk) *rig {
	t.Helper()
	n, o := made(t, c, self, inc, d)
	return &rig{Node: n, disk: journal.Apply(d, o.Write, -1)}
}

func (r *rig) step(in api.Input) api.Output {
	o := r.Step(in)
	if len(o.Write) > 0 {
		r.disk = journal.Apply(r.disk, o.Write, -1)
	}
	return o
}

// alone is a node of its own, active in the view {1, 0, 1, 1}.
func alone(t testing.TB) *rig {
	t.Helper()
	r := rigged(t, config(1), 0, 1, api.Disk{})
	for range 2 {
		r.step(tick)
	}
	if s := r.Status(); s != (api.Status{Mode: api.ModeActive, Promise: 1, Epoch: 1}) {
		t.Fatalf("15.8, example 4: the status behind two ticks is %+v", s)
	}
	return r
}

// replicaOf is the replica that a disk's records leave.
func replicaOf(t testing.TB, c api.Config, self, inc int, d api.Disk) *replica.Replica {
	t.Helper()
	_, l, _, e := journal.Open(d)
	if e != api.OK {
		t.Fatalf("P15.9: the disk cannot be opened: error %d", e)
	}
	r, e := replica.New(c, self, inc, l)
	if e != api.OK {
		t.Fatalf("P15.9: the records cannot be replayed: error %d", e)
	}
	return r
}

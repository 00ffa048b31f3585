package node_test

import (
	"bytes"
	"math/rand"
	"slices"
	"strings"
	"testing"

	"quorate/api"
	"quorate/journal"
	"quorate/wire"
)

// TestTick: P15.2: the group's packets come out of ticks, and of nothing else.
func TestTick(t *testing.T) {
	r := rigged(t, config(4), 2, 3, api.Disk{})
	for n := 1; n < 4; n++ {
		o := r.step(tick)
		if o.Err != api.OK || len(o.Out) != 3 {
			t.Fatalf("P15.2: tick %d: %+v", n, o)
		}
		for i, p := range o.Out {
			want := api.Packet{
				Head: api.Head{Kind: api.KindBeat, Src: 2, SrcInc: 3, Dst: []int{0, 1, 3}[i]},
				Beat: api.Beat{Tick: n, Hears: []int{0, 0, 3, 0}},
			}
			b, _ := wire.Encode(want)
			if p.Dst != want.Dst || !bytes.Equal(p.Bytes, b) {
				t.Fatalf("P15.2: packet %d of tick %d is %+v, want %+v", i, n, p, want)
			}
		}
	}
}

// TestPacket: P15.2: a packet's error is the group's.
func TestPacket(t *testing.T) {
	r := rigged(t, config(2), 0, 1, api.Disk{})
	r.step(tick)
	beat := api.Packet{Head: api.Head{Kind: api.KindBeat, Src: 1, SrcInc: 4, Dst: 0}, Beat: api.Beat{Tick: 1, Hears: []int{0, 4}}}
	encoded := func(p api.Packet) []byte {
		b, _ := wire.Encode(p)
		return b
	}
	misled, strange, ack := beat, beat, api.Packet{Head: beat.Head, Ack: api.Ack{Tag: r.View().ID}}
	misled.Src, misled.Dst, strange.Src = 3, 1, 7
	ack.Kind, ack.DstInc = api.KindAck, 1
	for _, x := range []struct {
		b []byte
		e api.Errno
	}{
		{nil, api.ErrShort}, {[]byte("no packet at all"), api.ErrMagic}, {encoded(beat)[:12], api.ErrSum}, {encoded(misled), api.ErrMisled}, {encoded(strange), api.ErrStranger},
		{encoded(beat), api.OK}, {encoded(beat), api.ErrStale}, {encoded(ack), api.ErrSender},
	} {
		silent(t, "P15.2: a packet", r.step(packet(x.b)), x.e)
	}
}

// TestSend: P15.2 and P15.3: what a client sends goes out behind the byte 0.
func TestSend(t *testing.T) {
	r := alone(t)
	for i, body := range []string{"hi", "", "\x00", "\x01", strings.Repeat("z", api.MaxBlob-1)} {
		o := r.step(send(body))
		want := api.Mark{Kind: api.MarkSend, Node: 0, Inc: 1, ID: r.View().ID, Seq: 2 + i, Body: []byte("\x00" + body)}
		if !sameOutput(o, api.Output{Marks: []api.Mark{want}}) {
			t.Fatalf("P15.3: InSend of %d bytes: %+v", len(body), o)
		}
		o = r.step(tick)
		at := slices.Index(kinds(o.Marks), api.MarkDeliver)
		if at < 0 || at != len(o.Marks)-2 || o.Marks[at+1].Kind != api.MarkSafe || o.Marks[at+1].Pos != o.Marks[at].Pos {
			t.Fatalf("P15.4: what was sent alone is delivered and safe at the next tick: %v", lines(t, o.Marks))
		}
		got := api.Mark{Kind: api.MarkDeliver, Node: 0, Inc: 1, ID: r.View().ID, Sender: 0, Seq: 2 + i, Pos: o.Marks[at].Pos, Body: want.Body}
		if !sameMark(o.Marks[at], got) || len(o.Write) > 0 {
			t.Fatalf("P15.4: the delivery of %d bytes: %v", len(body), lines(t, o.Marks))
		}
	}
	for _, size := range []int{api.MaxBlob, api.MaxBlob + 1, 100000} {
		o := r.step(send(strings.Repeat("z", size)))
		wantOutput(t, "P15.2: too long", o, []string{`refuse 0 1 err=90`}, nil, 0, api.ErrBlob)
	}
}

// fillQueue sends what fills the group's queue to its last chunk: 17 and 15 of them.
func fillQueue(t *testing.T, r *rig) {
	t.Helper()
	for _, size := range []int{3999, 3600} {
		if o := r.step(send(strings.Repeat("q", size))); o.Err != api.OK {
			t.Fatalf("G4: InSend of %d bytes: error %d", size, o.Err)
		}
	}
}

// TestBusy: P15.2 and P15.4: a full queue; a replica's blob that waits goes ahead of what a client wants to send.
func TestBusy(t *testing.T) {
	r := alone(t)
	fillQueue(t, r)
	wantOutput(t, "P15.2: a full queue", r.step(send("")), []string{`refuse 0 1 err=101`}, nil, 0, api.ErrBusy)
	wantOutput(t, "P15.2: a full queue", r.step(send(strings.Repeat("z", api.MaxBlob))), []string{`refuse 0 1 err=90`}, nil, 0, api.ErrBlob)
	wantOutput(t, "P15.4: the blob waits", r.step(do(api.OpSet, "a", "x")), []string{`do 0 1 ` + setCmd}, nil, 0, api.OK)
	wantOutput(t, "P15.2: a blob waits", r.step(send("")), []string{`refuse 0 1 err=101`}, nil, 0, api.ErrBusy)
	wantOutput(t, "P15.2: a blob waits, too long", r.step(send(strings.Repeat("z", api.MaxBlob))), []string{`refuse 0 1 err=101`}, nil, 0, api.ErrBusy)
	o := r.step(tick)
	if last := o.Marks[len(o.Marks)-1]; lines(t, []api.Mark{last}) != `send 0 1 id=1/0/1/1 seq=4 body=`+setBlob {
		t.Fatalf("P15.4: the blob is sent as soon as there is room: %v", lines(t, o.Marks))
	}
	wantOutput(t, "P15.2: nothing waits", r.step(send("")), []string{`send 0 1 id=1/0/1/1 seq=5 body="\x00"`}, nil, 0, api.OK)
	o = r.step(tick)
	if len(o.Marks) < 4 || o.Marks[0].Seq != 4 || o.Marks[1].Seq != 5 || r.Status().Base != 1 || r.Status().Pending != 0 {
		t.Fatalf("P15.4: %v", lines(t, o.Marks))
	}
}

// TestBlockedBlob: P15.2 and P15.4: from a block to the next install a command is taken still, and waits.
func TestBlockedBlob(t *testing.T) {
	h := byHand(t, 0)
	h.activate()
	h.beat(0) // it hears node 0 no more
	o := h.tick()
	if len(o.Marks) != 3 || o.Marks[0].Kind != api.MarkBlock || o.Marks[1].Kind != api.MarkInstall || h.n.Status().Mode != api.ModeJoining {
		t.Fatalf("P15.4: left alone: %v", lines(t, o.Marks))
	}
	h = byHand(t, 0)
	h.activate()
	h.propose(9, 0) // a new change of node 1
	if o := h.last; len(o.Marks) != 1 || o.Marks[0].Kind != api.MarkBlock || o.Marks[0].ID != h.n.View().ID {
		t.Fatalf("P15.4: a change begins: %v", lines(t, o.Marks))
	}
	wantOutput(t, "P15.2: blocked", h.step(send("hi")), []string{`refuse 0 3 err=100`}, nil, 0, api.ErrBlocked)
	wantOutput(t, "P15.2: blocked", h.step(do(api.OpGet, "a")), []string{`do 0 3 cmd=0/3/1/2/"a"/""/""`}, nil, 0, api.OK)
	wantOutput(t, "P15.2: blocked, and a blob waits", h.step(send("hi")), []string{`refuse 0 3 err=101`}, nil, 0, api.ErrBusy)
	wantOutput(t, "P15.2: blocked", h.step(do(api.OpGet, "a")), []string{`refuse 0 3 cmd=0/0/0/2/"a"/""/"" err=141`}, nil, 0, api.ErrPending)
}

// TestDo: P15.2 and P15.3: of a command just what it asks for counts.
func TestDo(t *testing.T) {
	r := alone(t)
	for _, x := range []struct {
		in api.Input
		e  api.Errno
		s  string
	}{
		{do(77, "a"), api.ErrCommand, `refuse 0 1 cmd=0/0/0/77/"a"/""/"" err=130`},
		{do(0), api.ErrCommand, `refuse 0 1 err=130`},
		{do(api.OpGet, ""), api.ErrCommand, `refuse 0 1 cmd=0/0/0/2/""/""/"" err=130`},
		{do(api.OpSet, "123456789", "v", "o"), api.ErrCommand, `refuse 0 1 cmd=0/0/0/1/"123456789"/"v"/"o" err=130`},
	} {
		wantOutput(t, "P15.2: no command", r.step(x.in), []string{x.s}, nil, 0, x.e)
	}
	in := do(api.OpCas, "k", "new", "old")
	in.Cmd.Client, in.Cmd.Inc, in.Cmd.Req = -5, 99, api.MaxCount
	o := r.step(in)
	if len(o.Marks) != 2 || lines(t, o.Marks[:1]) != `do 0 1 cmd=0/1/1/3/"k"/"new"/"old"` {
		t.Fatalf("P15.3: MarkDo: %+v", o)
	}
	in.Cmd.Op = api.OpDel
	in.Cmd.Val, in.Cmd.Old = "", ""
	wantOutput(t, "P15.2: one is pending", r.step(in), []string{`refuse 0 1 cmd=0/0/0/4/"k"/""/"" err=141`}, nil, 0, api.ErrPending)
	r.step(tick)
	o = r.step(in)
	if len(o.Marks) != 2 || lines(t, o.Marks[:1]) != `do 0 1 cmd=0/1/2/4/"k"/""/""` {
		t.Fatalf("P15.3: MarkDo of the second request: %+v", o)
	}
	idle := rigged(t, config(2), 0, 1, api.Disk{})
	idle.step(tick) // alone, one vote of two, and the first voter's
	if idle.Status().Mode != api.ModeJoining {
		t.Fatalf("chapter 11: half of the votes with the first voter's: %+v", idle.Status())
	}
	wantOutput(t, "P15.2: not active", idle.step(do(api.OpGet, "a")), []string{`refuse 0 1 cmd=0/0/0/2/"a"/""/"" err=140`}, nil, 0, api.ErrIdle)
}

// TestLeave: P15.2.
func TestLeave(t *testing.T) {
	h := byHand(t, 0)
	h.activate()
	for range 2 {
		wantOutput(t, "P15.2: leaving", h.step(leave), []string{`leave 0 3`}, nil, 0, api.OK)
	}
	o := h.tick()
	if v := h.n.View(); len(v.Members) != 1 || len(o.Marks) < 2 || o.Marks[0].Kind != api.MarkBlock || len(o.Out) != 1 {
		t.Fatalf("G5: behind leaving: %+v, %v", v, lines(t, o.Marks))
	}
}

// TestOtherKinds: P15.2 and P15.11: no input; nothing is done, not even settling.
func TestOtherKinds(t *testing.T) {
	r := alone(t)
	fillQueue(t, r)
	r.step(do(api.OpSet, "a", "x"))
	for _, kind := range append(far(), 0, 6, 7, 9, 77, 256+api.InTick, 1<<32+api.InTick) {
		in := api.Input{Kind: kind, Bytes: []byte("x"), Cmd: do(api.OpGet, "a").Cmd}
		silent(t, "P15.11", r.step(in), api.ErrInput)
	}
	o := r.step(tick)
	if last := o.Marks[len(o.Marks)-1]; last.Kind != api.MarkSend || last.Seq != 4 || last.Body[0] != 1 {
		t.Fatalf("P15.2: behind inputs of no kind: %v", lines(t, o.Marks))
	}
}

// TestFieldsNotNamed: P15.2: what an input's Kind does not name is not looked at.
func TestFieldsNotNamed(t *testing.T) {
	plain, r := alone(t), alone(t)
	rnd := rand.New(rand.NewSource(1))
	for range 300 {
		in := []api.Input{tick, packet([]byte("no packet")), send("hi"), do(api.OpAdd, "n", "3"), leave}[rnd.Intn(5)]
		more := in
		if in.Kind != api.InPacket && in.Kind != api.InSend {
			more.Bytes = bytes.Repeat([]byte{1}, 1+rnd.Intn(9000))
		}
		if in.Kind != api.InDo {
			more.Cmd = api.Command{Client: -1, Inc: -1, Req: -1, Op: 1 + rnd.Intn(9), Key: "a", Val: "b", Old: "c"}
		} else {
			more.Cmd.Client, more.Cmd.Inc, more.Cmd.Req = 7, -7, 1
		}
		if got, want := r.step(more), plain.step(in); !sameOutput(got, want) {
			t.Fatalf("P15.2: Step(%+v) = %+v, want %+v", more, got, want)
		}
	}
}

// sized is a disk whose journal has just this size: promises of 9 and of 10 bytes.
func sized(generation, size int) api.Disk {
	var l []api.Record
	left := size - 18
	for ; left%10 != 0; left -= 9 {
		l = append(l, recPromise(1))
	}
	for ; left > 0; left -= 10 {
		l = append(l, recPromise(200))
	}
	return api.Disk{A: file(generation, l...)}
}

// TestCompact: P15.2: a tick begins a long journal anew, ahead of all else; no other step does.
func TestCompact(t *testing.T) {
	for size, isLong := range map[int]bool{16383: false, 16384: false, 16385: true, 16386: true, 60000: true, api.MaxFile: true} {
		r := rigged(t, config(1), 0, 2, sized(6, size))
		if len(r.disk.A) != size {
			t.Fatalf("the test's disk has %d bytes, want %d", len(r.disk.A), size)
		}
		for _, in := range []api.Input{packet(nil), send("hi"), do(api.OpGet, "a"), leave, {Kind: 9}} {
			if o := r.step(in); len(o.Write) > 0 {
				t.Fatalf("P15.2: an input of the kind %d makes the writes %v", in.Kind, o.Write)
			}
		}
		o := r.step(tick)
		promise := o.Write[len(o.Write)-1:]
		if l := appended(t, promise); len(l) != 1 || !sameRecord(l[0], recPromise(201)) {
			t.Fatalf("P15.4: the install's writes: %v", o.Write)
		}
		if !isLong && len(o.Write) != 1 || isLong && len(o.Write) != 2 {
			t.Fatalf("P15.2: a journal of %d bytes: %d writes", size, len(o.Write))
		}
		if !isLong {
			continue
		}
		checkpoint := recState(200, 0, 0, []byte(emptyShot))
		want := join([]byte("qj"), number(8, 7), number(4, 1))
		if w := o.Write[0]; w.File != 1 || !w.Start || len(w.Bytes) != 18+8+len(checkpoint.Body) || !bytes.HasPrefix(w.Bytes, want) {
			t.Fatalf("P15.2: the compacting write is %+v", w)
		}
		_, l, _, e := journal.Open(r.disk)
		if e != api.OK || len(l) != 2 || !sameRecord(l[0], checkpoint) || !sameRecord(l[1], recPromise(201)) {
			t.Fatalf("P15.2: behind compacting the records are %v", l)
		}
	}
}

package node_test

import (
	"testing"

	"quorate/api"
)

// The texts of the chapter's examples: the empty machine's snapshot, its state's blob, the first command and its blob.
const (
	emptyShot  = "QS\x01\x00\x00\x00\x00\x94n\xb4\xaf"
	emptyState = `"\x01\x01\x00\x00\x0bQS\x01\x00\x00\x00\x00\x94n\xb4\xaf\x00"`
	setCmd     = `cmd=0/1/1/1/"a"/"x"/""`
	setBlob    = `"\x01\x02\x00\x00\x01\x01\x01\x01a\x01x\x00"`
)

// TestExamples: 15.8, one behind the other.
func TestExamples(t *testing.T) {
	n, o := made(t, config(1), 0, 1, api.Disk{}) // 1
	if len(o.Write) != 1 || !sameWrite(o.Write[0], api.Write{File: 0, Start: true, Bytes: file(1)}) || len(file(1)) != 18 {
		t.Fatalf("15.8, example 1: the writes are %v", o.Write)
	}
	if lines(t, o.Marks) != "boot 0 1" || len(o.Out) != 0 || o.Err != api.OK {
		t.Fatalf("15.8, example 1: %+v", o)
	}
	if n.Status() != (api.Status{}) || len(n.View().Members) != 0 || n.Halted() {
		t.Fatalf("15.8, example 1: the status is %+v", n.Status())
	}
	r := &rig{Node: n, disk: api.Disk{A: file(1)}}
	wantOutput(t, "15.8, example 2", r.step(do(api.OpSet, "a", "x")), []string{`refuse 0 1 cmd=0/0/0/1/"a"/"x"/"" err=140`}, nil, 0, api.ErrIdle)
	wantOutput(t, "15.8, example 2", r.step(send("hi")), []string{`refuse 0 1 err=100`}, nil, 0, api.ErrBlocked)
	silent(t, "15.8, example 2", r.step(api.Input{Kind: 9}), api.ErrInput)
	wantOutput(t, "15.8, example 3", r.step(tick), []string{
		`install 0 1 id=1/0/1/1 members=0/1/1 trans=0`,
		`send 0 1 id=1/0/1/1 seq=1 body=` + emptyState,
	}, []api.Record{recPromise(1)}, 0, api.OK)
	wantOutput(t, "15.8, example 4", r.step(tick), []string{
		`deliver 0 1 id=1/0/1/1 seq=1 pos=1 body=` + emptyState,
		`adopt 0 1 id=1/0/1/1`,
		`safe 0 1 id=1/0/1/1 pos=1`,
	}, []api.Record{recState(1, 1, 0, []byte(emptyShot))}, 0, api.OK)
	wantOutput(t, "15.8, example 4", r.step(do(api.OpSet, "a", "x")), []string{
		`do 0 1 ` + setCmd,
		`send 0 1 id=1/0/1/1 seq=2 body=` + setBlob,
	}, nil, 0, api.OK)
	wantOutput(t, "15.8, example 4", r.step(tick), []string{
		`deliver 0 1 id=1/0/1/1 seq=2 pos=2 body=` + setBlob,
		`safe 0 1 id=1/0/1/1 pos=2`,
		`apply 0 1 n=1 ` + setCmd + ` result=1/""/0`,
		`reply 0 1 ` + setCmd + ` result=1/""/0`,
	}, []api.Record{recAppend(set(0, 1, 1, "a", "x")), recSafe(1)}, 0, api.OK)
	_, o = made(t, config(1), 0, 2, r.disk) // 5
	wantOutput(t, "15.8, example 5", o, []string{`boot 0 2`, `apply 0 2 n=1 ` + setCmd + ` result=1/""/0`}, nil, 0, api.OK)
}

// TestTwoOfTheWorld: example 8 of chapter 16, as far as it speaks of nodes that talk to one another.
func TestTwoOfTheWorld(t *testing.T) {
	c := api.Config{Nodes: 2, Window: 2, Base: 2, Step: 1, Cap: 8, Room: 100, Votes: []int{0, 1}}
	nodes := []*rig{rigged(t, c, 0, 1, api.Disk{}), rigged(t, c, 1, 1, api.Disk{})}
	var told []api.Mark
	var out [2][]api.Out
	for range 5 {
		arrived := out
		out = [2][]api.Out{}
		for _, l := range arrived {
			for _, p := range l {
				told = append(told, nodes[p.Dst].step(packet(p.Bytes)).Marks...)
			}
		}
		for p, n := range nodes {
			o := n.step(tick)
			told, out[p] = append(told, o.Marks...), o.Out
		}
	}
	var changes []api.Mark
	for _, m := range told {
		if m.Kind == api.MarkInstall || m.Kind == api.MarkBlock {
			changes = append(changes, m)
		}
	}
	want := `install 0 1 id=1/0/1/1 members=0/1/1 trans=0
install 1 1 id=1/1/1/1 members=1/1/1 trans=1
block 0 1 id=1/0/1/1
block 1 1 id=1/1/1/1
install 1 1 id=2/0/1/2 members=0/1/2,1/1/2 trans=1
install 0 1 id=2/0/1/2 members=0/1/2,1/1/2 trans=0`
	if got := lines(t, changes); got != want {
		t.Errorf("16.5, example 8: the changes are\n%s\nwant\n%s", got, want)
	}
}

// TestTornOfTheWorld: example 7 of chapter 16: of a torn step nothing is known, or all that it did.
func TestTornOfTheWorld(t *testing.T) {
	r := alone(t)
	r.step(do(api.OpSet, "a", "x"))
	ahead := r.disk
	r.step(tick)
	_, o := made(t, config(1), 0, 2, ahead)
	wantOutput(t, "16.5, example 7: nothing of it", o, []string{`boot 0 2`}, nil, 0, api.OK)
	_, o = made(t, config(1), 0, 2, r.disk)
	wantOutput(t, "16.5, example 7: all of it", o, []string{`boot 0 2`, `apply 0 2 n=1 ` + setCmd + ` result=1/""/0`}, nil, 0, api.OK)
}

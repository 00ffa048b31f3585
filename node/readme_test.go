package node_test

import (
	"slices"
	"testing"

	"quorate/api"
	"quorate/journal"
	"quorate/node"
)

// TestReadme: what README.md shows of this package.
func TestReadme(t *testing.T) {
	c := api.Config{Nodes: 1, Window: 4, Base: 2, Step: 1, Cap: 8, Room: 100, Votes: []int{1}}
	n, o, _ := node.New(c, 0, 1, api.Disk{})
	wantKinds := func(e api.Errno, want ...int) {
		t.Helper()
		if got := kinds(o.Marks); !slices.Equal(got, want) || o.Err != e {
			t.Errorf("README: the kinds of the marks are %v, error %d, want %v, error %d", got, o.Err, want, e)
		}
	}
	wantKinds(api.OK, api.MarkBoot)
	d := journal.Apply(api.Disk{}, o.Write, -1)
	for range 2 {
		o = n.Step(api.Input{Kind: api.InTick})
		d = journal.Apply(d, o.Write, -1)
	}
	if n.View().ID != (api.ViewID{Epoch: 1, Lead: 0, Inc: 1, Cid: 1}) || n.Status().Mode != api.ModeActive {
		t.Errorf("README: %+v, %+v", n.View(), n.Status())
	}
	o = n.Step(api.Input{Kind: api.InDo, Cmd: api.Command{Op: api.OpSet, Key: "a", Val: "x"}})
	wantKinds(api.OK, api.MarkDo, api.MarkSend)
	o = n.Step(api.Input{Kind: api.InSend, Bytes: []byte("hi")})
	wantKinds(api.OK, api.MarkSend)
	o = n.Step(api.Input{Kind: api.InPacket, Bytes: []byte("no!")})
	wantKinds(api.ErrShort)
	o = n.Step(api.Input{Kind: api.InTick})
	wantKinds(api.OK, api.MarkDeliver, api.MarkDeliver, api.MarkSafe, api.MarkApply, api.MarkReply)
	d = journal.Apply(d, o.Write, -1)
	_, o, _ = node.New(c, 0, 2, d)
	wantKinds(api.OK, api.MarkBoot, api.MarkApply)
}

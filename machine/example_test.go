package machine_test

import (
	"bytes"
	"slices"
	"testing"

	"quorate/api"
	"quorate/machine"
)

// TestExamples: section 13.5, 1 to 6.
func TestExamples(t *testing.T) {
	m := machine.New()
	want(t, m, cmd(0, 1, 1, api.OpSet, "a", "x"), api.ResDone, "", 0) // 1
	want(t, m, cmd(0, 1, 2, api.OpSet, "a", "y"), api.ResDone, "x", 1)
	want(t, m, cmd(0, 1, 2, api.OpSet, "a", "y"), api.ResDone, "x", 1)
	if v, ok := m.Get("a"); v != "y" || !ok {
		t.Errorf("M7: a is %q", v)
	}
	want(t, m, cmd(0, 1, 1, api.OpSet, "a", "x"), api.ResStale, "", 0)

	want(t, m, cmd(1, 1, 1, api.OpCas, "a", "z", "x"), api.ResDiffer, "y", 1) // 2
	want(t, m, cmd(1, 1, 2, api.OpCas, "a", "z", "y"), api.ResDone, "y", 1)
	want(t, m, cmd(1, 1, 5, api.OpGet, "a"), api.ResDone, "z", 1)
	want(t, m, cmd(1, 1, 4, api.OpGet, "a"), api.ResStale, "", 0)

	want(t, m, cmd(0, 1, 3, api.OpAdd, "n", "5"), api.ResDone, "5", 0) // 3
	want(t, m, cmd(0, 1, 4, api.OpAdd, "n", "-7"), api.ResDone, "-2", 1)
	want(t, m, cmd(0, 1, 5, api.OpAdd, "a", "1"), api.ResNumber, "z", 1)
	want(t, m, cmd(0, 1, 6, api.OpSet, "n", "99999999"), api.ResDone, "-2", 1)
	want(t, m, cmd(0, 1, 7, api.OpAdd, "n", "1"), api.ResOver, "99999999", 1)
	before := m.Snapshot()
	for _, val := range []string{"07", "-0", "+1"} {
		want(t, m, cmd(0, 1, 8, api.OpAdd, "n", val), api.ResBad, "", 0)
	}
	if !bytes.Equal(m.Snapshot(), before) {
		t.Error("M4: what is no command changes the state")
	}

	want(t, m, cmd(0, 1, 8, api.OpLock, "L"), api.ResDone, "", 1) // 4
	want(t, m, cmd(1, 1, 6, api.OpLock, "L"), api.ResQueued, "", 1)
	want(t, m, cmd(2, 1, 1, api.OpLock, "L"), api.ResQueued, "", 2)
	want(t, m, cmd(1, 1, 7, api.OpLock, "L"), api.ResQueued, "", 1)
	want(t, m, cmd(0, 1, 9, api.OpLock, "L"), api.ResDone, "", 1)
	want(t, m, cmd(2, 1, 2, api.OpFence, "L", "1"), api.ResDone, "", 1)
	want(t, m, cmd(0, 1, 10, api.OpUnlock, "L"), api.ResDone, "", 2)
	if h, ok := m.Holder("L"); h != (api.Holder{Client: 1, Inc: 1, Token: 2}) || !ok {
		t.Errorf("M6: L is held by %+v", h)
	}
	want(t, m, cmd(0, 1, 11, api.OpFence, "L", "1"), api.ResStale, "", 2)
	want(t, m, cmd(0, 1, 12, api.OpUnlock, "L"), api.ResNone, "", 0)

	want(t, m, cmd(1, 2, 1, api.OpGet, "q"), api.ResNone, "", 0) // 5
	if h, ok := m.Holder("L"); h != (api.Holder{Client: 2, Inc: 1, Token: 3}) || !ok {
		t.Errorf("M4: L is held by %+v", h)
	}
	want(t, m, cmd(1, 1, 9, api.OpGet, "a"), api.ResStale, "", 0)

	want(t, m, cmd(0, 1, 13, api.OpEnd, "", "2"), api.ResDone, "", 1) // 6
	if _, ok := m.Holder("L"); ok || len(m.Locks()) > 0 {
		t.Error("M6: L is held still")
	}
	want(t, m, cmd(0, 1, 14, api.OpEnd, "", "7"), api.ResNone, "", 0)
	want(t, m, cmd(0, 1, 15, api.OpEnd, "", "16"), api.ResBad, "", 0)
}

// TestExampleEnds: section 13.5, 6, the rest of it.
func TestExampleEnds(t *testing.T) {
	want(t, machine.New(), cmd(0, 1, 1, api.OpEnd, "", "0"), api.ResNone, "", 0)
	m := machine.New()
	want(t, m, cmd(0, 1, 1, api.OpLock, "L"), api.ResDone, "", 1)
	want(t, m, cmd(0, 2, 1, api.OpEnd, "", "0"), api.ResDone, "", 0)
	if len(m.Locks()) > 0 {
		t.Error("M4: L is held still")
	}
}

// TestExampleSnapshot: section 13.5, 7.
func TestExampleSnapshot(t *testing.T) {
	text := []byte{0x51, 0x53, 1, 0, 0, 0, 0, 0x94, 0x6e, 0xb4, 0xaf}
	if b := machine.New().Snapshot(); !bytes.Equal(b, text) {
		t.Errorf("M8: % x, want % x", b, text)
	}
	m, e := machine.Restore(text)
	if e != api.OK {
		t.Fatalf("M9: error %d", e)
	}
	wantState(t, m, newModel())
}

// TestReadme: what the README shows.
func TestReadme(t *testing.T) {
	m := machine.New()
	want(t, m, api.Command{Client: 0, Inc: 1, Req: 1, Op: api.OpSet, Key: "a", Val: "x"}, api.ResDone, "", 0)
	want(t, m, api.Command{Client: 0, Inc: 1, Req: 1, Op: api.OpSet, Key: "a", Val: "x"}, api.ResDone, "", 0)
	want(t, m, api.Command{Client: 0, Inc: 1, Req: 2, Op: api.OpLock, Key: "L"}, api.ResDone, "", 1)
	want(t, m, api.Command{Client: 1, Inc: 1, Req: 1, Op: api.OpLock, Key: "L"}, api.ResQueued, "", 1)
	want(t, m, api.Command{Client: 0, Inc: 2, Req: 1, Op: api.OpGet, Key: "a"}, api.ResDone, "x", 1)
	h, ok := m.Holder("L")
	if h != (api.Holder{Client: 1, Inc: 1, Token: 2}) || !ok {
		t.Errorf("Holder: %+v, %v", h, ok)
	}
	want(t, m, api.Command{Client: 0, Inc: 2, Req: 2, Op: api.OpFence, Key: "L", Val: "1"}, api.ResStale, "", 2)
	n, e := machine.Restore(m.Snapshot())
	if e != api.OK || !slices.Equal(n.Pairs(), []api.Pair{{Key: "a", Val: "x"}}) || !slices.Equal(n.Locks(), []string{"L"}) {
		t.Fatalf("Restore: error %d", e)
	}
	if s, ok := n.Session(0); s != (api.Session{Inc: 2, Req: 2, Last: api.Result{Code: api.ResStale, N: 2}}) || !ok {
		t.Errorf("Session: %#v, %v", s, ok)
	}
	b, e := machine.EncodeCommand(api.Command{Client: 0, Inc: 1, Req: 300, Op: api.OpSet, Key: "k", Val: "v"})
	if e != api.OK || !bytes.Equal(b, []byte{0, 1, 0xac, 2, 1, 1, 'k', 1, 'v', 0}) {
		t.Errorf("EncodeCommand: % x, error %d", b, e)
	}
	c, e := machine.DecodeCommand(b)
	if e != api.OK || c != (api.Command{Client: 0, Inc: 1, Req: 300, Op: api.OpSet, Key: "k", Val: "v"}) {
		t.Errorf("DecodeCommand: %#v, error %d", c, e)
	}
	if _, e = machine.DecodeCommand(b[:9]); e != api.ErrCommand {
		t.Errorf("DecodeCommand: error %d", e)
	}
}

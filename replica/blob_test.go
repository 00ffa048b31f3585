package replica_test

import (
	"bytes"
	"slices"
	"testing"

	"quorate/api"
	"quorate/machine"
	"quorate/replica"
)

// longest is the state with the longest text that there is, or nearly so.
func longest() api.State {
	m := machine.New()
	full := "\xff\xff\xff\xff\xff\xff\xff"
	for i := range 16 {
		m.Apply(set(i, api.MaxCount, api.MaxCount-30, full+string([]byte{byte(i)}), "12345678"))
	}
	for i := range 8 {
		for p := range 16 {
			m.Apply(cmd(p, api.MaxCount, api.MaxCount-20+i, api.OpLock, full+string([]byte{byte(i)})))
		}
	}
	for i := range 16 {
		m.Apply(cmd(i, api.MaxCount, api.MaxCount-1, api.OpGet, full+string([]byte{byte(i)})))
	}
	s := api.State{Epoch: api.MaxCount - 1, Base: api.MaxCount - 16, Snapshot: m.Snapshot()}
	for i := range 16 {
		s.Tail = append(s.Tail, cmd(i, api.MaxCount, api.MaxCount, api.OpCas, full+"x", "12345678", "87654321"))
	}
	return s
}

// samples are states of all kinds.
func samples() []api.State {
	l := many(40)
	return []api.State{state(0, 0), state(1, 0, l[0]), state(1, 3, l[:5]...), state(1, 20, l[:36]...), {Epoch: 1, Base: api.MaxCount, Snapshot: shot(l[:9]...)}}
}

// alone: node 0 decides alone.
func alone() api.Config {
	c := config(3)
	c.Votes = []int{5, 1, 1}
	return c
}

// TestBlobsThereAndBack: P16, states as Next tells them and a delivery reads them, and records.
func TestBlobsThereAndBack(t *testing.T) {
	for _, s := range append(samples(), longest()) {
		r := made(t, alone(), 0, 1, recState(5, s))
		taken(t, r, install(viewOf(api.MaxCount, 0)))
		wantNext(t, r, stateBlob(s))
		b, _ := r.Next()
		if len(b) > 3000 {
			t.Fatalf("14.2: a state's blob has %d bytes", len(b))
		}
		x := made(t, alone(), 0, 1)
		taken(t, x, install(viewOf(api.MaxCount, 0)), deliver(0, 1, b))
		s.Epoch = api.MaxCount
		if c := x.Checkpoint(); !sameRecord(c, recState(api.MaxCount, s)) || len(c.Body) > api.MaxRecord {
			t.Fatalf("R4: the checkpoint is %v", c)
		}
	}
	if b := stateBlob(longest()); len(b) < 1700 {
		t.Errorf("the test is too weak: %d bytes", len(b))
	}
}

// damaged are bytes with every cut, and with every byte changed, doubled or left out.
func damaged(b []byte) [][]byte {
	var l [][]byte
	for at := range len(b) + 1 {
		l = append(l, b[:at], b[at:], slices.Insert(bytes.Clone(b), at, 0), slices.Insert(bytes.Clone(b), at, 0x80))
		if at == len(b) {
			continue
		}
		for _, x := range []byte{1, 2, 3, 4, 8, 16, 32, 64, 0x80, 0xff} {
			d := bytes.Clone(b)
			d[at] ^= x
			l = append(l, d)
		}
		l = append(l, slices.Delete(bytes.Clone(b), at, at+1), slices.Insert(bytes.Clone(b), at, b[at]))
	}
	return l
}

// TestStateBlobs: R3 and 14.2, whole states, and all that is nearly one.
func TestStateBlobs(t *testing.T) {
	seen := [2]int{}
	for _, s := range samples() {
		for _, b := range damaged(stateBlob(s)) {
			want := api.ErrState
			x, ok := asState(b)
			_, _, isCommand := asCommand(b)
			if isCommand {
				want = api.ErrNote
			} else if ok && x.Epoch < 9 {
				want = api.OK
			}
			r := made(t, alone(), 0, 1)
			taken(t, r, install(viewOf(9, 0)))
			if e := r.Take(deliver(0, 1, b)); e != want {
				t.Fatalf("R3: the blob % x: error %d, want %d", b, e, want)
			}
			if want == api.OK {
				seen[1]++
				wantLog(t, r, x.Tail...)
				continue
			}
			seen[0]++
		}
	}
	if seen[0] < 3000 || seen[1] < 100 {
		t.Errorf("the test is too weak: %d refused, %d taken", seen[0], seen[1])
	}
}

// TestStateEdges: 14.2, what a valid state is, at each of its bounds.
func TestStateEdges(t *testing.T) {
	l := many(17)
	at := func(epoch, base int, tail []api.Command) api.State {
		return api.State{Epoch: epoch, Base: base, Snapshot: shot(), Tail: tail}
	}
	bad, short := at(0, 0, l[:1]), at(0, 0, nil)
	bad.Tail = []api.Command{cmd(0, 1, 1, api.OpGet, "a", "x")}
	short.Snapshot = short.Snapshot[:10]
	for _, c := range []struct {
		s  api.State
		ok bool
	}{
		{at(0, 0, l[:16]), true}, {at(0, 0, l), false}, {at(0, api.MaxCount, nil), true}, {at(0, api.MaxCount, l[:1]), false}, {at(0, api.MaxCount-1, l[:1]), true},
		{at(0, api.MaxCount-15, l[:15]), true}, {at(0, api.MaxCount-15, l[:16]), false}, {at(0, api.MaxCount+1, nil), false}, {at(api.MaxCount-1, 0, nil), true},
		{at(api.MaxCount, 0, nil), false}, {at(api.MaxCount+1, 0, nil), false}, {bad, false}, {short, false}, {api.State{}, false},
	} {
		r := made(t, alone(), 0, 1)
		taken(t, r, install(viewOf(api.MaxCount, 0)))
		quiet(r)
		if !c.ok {
			refused(t, r, deliver(0, 1, stateBlob(c.s)), api.ErrState)
			continue
		}
		taken(t, r, deliver(0, 1, stateBlob(c.s)))
		wantLog(t, r, c.s.Tail...)
	}
	for _, s := range []api.State{at(0, 0, l), at(0, api.MaxCount, l[:1]), bad, short} {
		if _, e := replica.New(alone(), 0, 1, []api.Record{recState(0, s)}); e != api.ErrRecord {
			t.Errorf("R2: a checkpoint of no valid state: error %d", e)
		}
	}
}

// TestCommandBlobs: R3 and 14.2, a command's blob, and all that is nearly one.
func TestCommandBlobs(t *testing.T) {
	seen := map[api.Errno]int{}
	for _, c := range []api.Command{set(0, 1, 1, "a", "x"), cmd(0, 1, 300, api.OpCas, "key45678", "val45678", "old45678"), cmd(0, 1, 1, api.OpEnd, "", "15")} {
		for _, known := range []int{0, 2, 3} {
			for _, b := range append(damaged(commandBlob(known, c)), commandBlob(known, c)) {
				r := adopted(t, alone(), 0, viewOf(2, 0), state(0, 0, many(3)...))
				m, _ := newModel(alone(), 0, 1, nil)
				m.take(install(viewOf(2, 0)))
				m.take(deliver(0, 1, stateBlob(state(0, 0, many(3)...))))
				want := m.take(deliver(0, 2, b))
				if e := r.Take(deliver(0, 2, b)); e != want {
					t.Fatalf("R3: the blob % x: error %d, want %d", b, e, want)
				}
				wantLog(t, r, m.commands()...)
				seen[want]++
			}
		}
	}
	if seen[api.OK] < 50 || seen[api.ErrState] < 500 {
		t.Errorf("the test is too weak: %v", seen)
	}
}

// TestNoBlob: R3 and 14.2, bytes that begin like none.
func TestNoBlob(t *testing.T) {
	r := adopted(t, config(3), 0, viewOf(2, 0, 1), state(0, 0))
	j := joining(t, config(3), 0, viewOf(2, 0, 1))
	for first := range 256 {
		for _, rest := range [][]byte{nil, {0}, stateText(state(0, 0)), commandBlob(0, set(0, 1, 1, "a", "x"))[1:]} {
			b := append([]byte{byte(first)}, rest...)
			if _, ok := asState(b); ok {
				continue
			}
			if _, _, ok := asCommand(b); ok {
				continue
			}
			refused(t, r, deliver(0, 7, b), api.ErrState)
			refused(t, j, deliver(0, 7, b), api.ErrState)
		}
	}
	refused(t, r, deliver(0, 7, nil), api.ErrState)
	refused(t, r, deliver(0, 7, []byte{}), api.ErrState)
}

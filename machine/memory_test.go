package machine_test

import (
	"bytes"
	"runtime"
	"strings"
	"testing"

	"quorate/api"
	"quorate/machine"
)

// roomy is the same list with room behind it that is not the callee's to write.
func roomy(b []byte) []byte {
	wide := append(bytes.Clone(b), "not yours to write"...)
	return wide[:len(b)]
}

// full is a list with its spare room.
func full[T any](l []T) []T { return l[:cap(l)] }

// fill writes one thing over a list and its spare room.
func fill[T any](l []T, x T) {
	for i := range full(l) {
		full(l)[i] = x
	}
}

// wantUntouched makes a call with bytes that have spare room, and looks whether they changed.
func wantUntouched(t *testing.T, what string, b []byte, call func()) {
	t.Helper()
	before := bytes.Clone(full(b))
	call()
	if !bytes.Equal(full(b), before) {
		t.Fatalf("rule 5: %s changed what it was handed", what)
	}
}

// texts are bytes for DecodeCommand and Restore, taken and refused ones.
func texts() [][]byte {
	var l [][]byte
	for _, c := range samples() {
		l = append(l, roomy(encoded(c)), roomy(encoded(c)[1:]))
	}
	for _, w := range []*model{newModel(), rich(), largest(), near(1)} {
		b := w.snapshot()
		l = append(l, roomy(b), roomy(b[:len(b)-1]), roomy(summed(b)))
	}
	return l
}

// TestArgumentsStay: rule 5, what is handed in is not changed.
func TestArgumentsStay(t *testing.T) {
	for _, b := range texts() {
		wantUntouched(t, "DecodeCommand", b, func() { machine.DecodeCommand(b) })
		wantUntouched(t, "Restore", b, func() { machine.Restore(b) })
		wantUntouched(t, "a restored machine", b, func() {
			if m, e := machine.Restore(b); e == api.OK {
				for _, c := range samples() {
					m.Apply(c)
					m.Snapshot()
				}
			}
		})
	}
}

// TestArgumentsAreNotKept: rule 5, what is written into bytes behind the call changes neither a command nor a machine.
func TestArgumentsAreNotKept(t *testing.T) {
	for _, c := range samples() {
		b := roomy(encoded(c))
		got, _ := machine.DecodeCommand(b)
		fill(b, 0x5a)
		if got != c {
			t.Fatalf("rule 5: the command has become %#v", got)
		}
	}
	for _, w := range []*model{newModel(), rich(), largest(), near(1)} {
		b := roomy(w.snapshot())
		m, _ := machine.Restore(b)
		fill(b, 0x5a)
		wantState(t, m, w)
		both(t, m, w, cmd(1, 1, 99, api.OpLock, "L"))
	}
}

// TestBytesApart: rule 5, bytes that are answered are new memory, with their spare room.
func TestBytesApart(t *testing.T) {
	for _, w := range []*model{newModel(), rich(), largest()} {
		b := w.snapshot()
		m, _ := machine.Restore(b)
		first, second := m.Snapshot(), m.Snapshot()
		fill(first, 0x5a)
		if !bytes.Equal(second, w.snapshot()) || !bytes.Equal(b, w.snapshot()) {
			t.Fatal("rule 5: two snapshots share memory")
		}
		room := bytes.Clone(full(first))
		fill(second, 0xa5)
		if !bytes.Equal(full(first), room) {
			t.Fatal("rule 5: two snapshots share their spare room")
		}
		wantState(t, m, w)
	}
	for _, c := range samples() {
		first, _ := machine.EncodeCommand(c)
		second, _ := machine.EncodeCommand(c)
		fill(first, 0x5a)
		if third, _ := machine.EncodeCommand(c); !bytes.Equal(second, encoded(c)) || !bytes.Equal(third, encoded(c)) {
			t.Fatal("rule 5: two texts of a command share memory")
		}
	}
}

// TestListsApart: rule 5 and M7, lists that are answered are new memory, with their spare room.
func TestListsApart(t *testing.T) {
	for _, w := range []*model{rich(), largest(), near(2)} {
		m := restore(t, w)
		scribble := func() {
			fill(m.Pairs(), api.Pair{Key: "mine", Val: "mine"})
			fill(m.Locks(), "mine")
			for _, l := range w.locks {
				fill(m.Waiting(l.name), api.Waiter{Client: 9, Inc: 9})
			}
		}
		pairs, locks, waiting := m.Pairs(), m.Locks(), m.Waiting("L")
		scribble()
		wantState(t, m, w)
		for p := range 5 {
			by(t, m, w, p, api.OpLock, "L")
			scribble()
			by(t, m, w, 4-p, api.OpUnlock, "L")
			scribble()
			by(t, m, w, p, api.OpSet, "a", "changed")
			scribble()
			wantState(t, m, w)
		}
		for _, p := range pairs {
			if p.Key == "mine" || p.Val == "changed" {
				t.Fatalf("rule 5: a list of pairs changed later: %q", pairs)
			}
		}
		for _, name := range locks {
			if name == "mine" {
				t.Fatalf("rule 5: a list of locks changed later: %q", locks)
			}
		}
		for _, x := range waiting {
			if x.Client == 9 && x.Inc == 9 {
				t.Fatalf("rule 5: a list of those who wait changed later: %v", waiting)
			}
		}
	}
}

// TestWaitingStays: M7, a list that was told stands as it was, whatever the queue does then.
func TestWaitingStays(t *testing.T) {
	m, w := machine.New(), newModel()
	for p := range 10 {
		by(t, m, w, p, api.OpLock, "L")
	}
	l := m.Waiting("L")
	for _, p := range []int{5, 0, 1, 9, 2} {
		by(t, m, w, p, api.OpUnlock, "L")
		by(t, m, w, p, api.OpLock, "L")
	}
	for i, x := range l {
		if x != (api.Waiter{Client: i + 1, Inc: 1}) {
			t.Fatalf("rule 5: the list has become %v", l)
		}
	}
	fill(l, api.Waiter{})
	wantState(t, m, w)
}

// TestMachinesApart: rule 6, other machines and calls change nothing.
func TestMachinesApart(t *testing.T) {
	m, w := machine.New(), newModel()
	other := machine.New()
	l, _ := drawnRun(600, 300)
	for i, c := range l {
		twin, e := machine.Restore(m.Snapshot())
		if e != api.OK {
			t.Fatalf("M9: error %d", e)
		}
		other.Apply(l[len(l)-1-i])
		for _, x := range samples() {
			x.Inc = api.MaxCount
			twin.Apply(x)
			machine.EncodeCommand(x)
		}
		both(t, m, w, c)
	}
	wantState(t, m, w)
}

// TestTellingChangesNothing: M7 and rule 7.
func TestTellingChangesNothing(t *testing.T) {
	l, answers := drawnRun(700, 300)
	m := machine.New()
	for i, c := range l {
		if got := m.Apply(c); got != answers[i] {
			t.Fatalf("M7: behind queries %#v answers %#v, want %#v", c, got, answers[i])
		}
		before := m.Snapshot()
		for _, name := range append(names(), "", strings.Repeat("x", 100)) {
			m.Get(name)
			m.Holder(name)
			m.Waiting(name)
		}
		for _, p := range append(far(), 0, 1, 15, 16) {
			m.Session(p)
		}
		m.Pairs()
		m.Locks()
		if !bytes.Equal(m.Snapshot(), before) {
			t.Fatal("M7: a query changes the state")
		}
	}
}

func heapInUse() int {
	runtime.GC()
	var s runtime.MemStats
	runtime.ReadMemStats(&s)
	return int(s.HeapAlloc)
}

// TestKeepsLittle: rules 5 and 8: a machine keeps neither the texts that its keys were cut from, nor more with each command.
func TestKeepsLittle(t *testing.T) {
	before := heapInUse()
	var l []*machine.Machine
	for n := range 100 {
		wide := strings.Repeat("7", 100000+n)
		m := machine.New()
		for op := 1; op <= 5; op += 4 {
			m.Apply(cmd(op, 1, 1, op, wide[:op], wide[10:18]))
		}
		m.Apply(cmd(3, 1, 1, api.OpCas, wide[:1], wide[20:28], wide[30:38]))
		m.Apply(cmd(4, 1, 1, api.OpLock, wide[40:48]))
		shot := append(m.Snapshot(), make([]byte, 100000)...)
		again, e := machine.Restore(shot[:len(shot)-100000])
		if e != api.OK {
			t.Fatalf("M9: error %d", e)
		}
		c, _ := machine.EncodeCommand(cmd(5, 1, 2, api.OpSet, wide[:8], wide[:8]))
		c = append(c, make([]byte, 100000)...)
		x, _ := machine.DecodeCommand(c[:len(c)-100000])
		again.Apply(x)
		l = append(l, m, again)
	}
	if grown := heapInUse() - before; grown > 200*6000 {
		t.Errorf("rule 8: 200 machines keep %d bytes", grown)
	}
	runtime.KeepAlive(l)
}

// TestGrowsNot: rule 8, a machine that is long at work keeps what its state needs.
func TestGrowsNot(t *testing.T) {
	m := machine.New()
	work := func(from int) {
		for n := from; n < from+30000; n++ {
			p := n % 16
			op := []int{api.OpLock, api.OpSet, api.OpUnlock, api.OpDel}[n/16%4]
			m.Apply(cmd(p, 1+n/5000, n+1, op, names()[n/64%10], map[int]string{api.OpSet: "v"}[op]))
		}
	}
	work(0)
	before := heapInUse()
	work(30000)
	if grown := heapInUse() - before; grown > 20000 {
		t.Errorf("rule 8: behind 30000 more commands it keeps %d bytes more", grown)
	}
	runtime.KeepAlive(m)
}

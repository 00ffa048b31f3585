package script_test

import (
	"math/rand"
	"reflect"
	"strings"
	"testing"

	"quorate/api"
)

const (
	big    = api.MaxCount
	bigest = "4611686018427387904" // MaxCount
	beyond = "4611686018427387905"
)

// sample: an event for three nodes, and its line.
type sample struct {
	line  string
	event api.Event
}

func command(op int, key, val, old string) api.Command {
	return api.Command{Op: op, Key: key, Val: val, Old: old}
}

// samples has at least one event of each kind, and the ends of each bound.
func samples() []sample {
	long := strings.Repeat("a", 16)
	return []sample{
		{`noop`, api.Event{Kind: api.EvNoop}},
		{`round`, api.Event{Kind: api.EvRound}},
		{`tick 0`, api.Event{Kind: api.EvTick}},
		{`tick 2`, api.Event{Kind: api.EvTick, A: 2}},
		{`send 1 "a b"`, api.Event{Kind: api.EvSend, A: 1, Body: []byte("a b")}},
		{`send 2 ""`, api.Event{Kind: api.EvSend, A: 2}},
		{`send 0 "\"\\\x00\x1f ~\x7f\xff"`, api.Event{Kind: api.EvSend, Body: []byte("\"\\\x00\x1f ~\x7f\xff")}},
		{`send 0 "` + strings.Repeat("b", api.MaxBlob) + `"`, api.Event{Kind: api.EvSend, Body: []byte(strings.Repeat("b", api.MaxBlob))}},
		{`do 0 set "k" "v"`, api.Event{Kind: api.EvDo, Cmd: command(api.OpSet, "k", "v", "")}},
		{`do 1 get "k"`, api.Event{Kind: api.EvDo, A: 1, Cmd: command(api.OpGet, "k", "", "")}},
		{`do 2 cas "k" "b" "a"`, api.Event{Kind: api.EvDo, A: 2, Cmd: command(api.OpCas, "k", "b", "a")}},
		{`do 0 del "k" "" "o"`, api.Event{Kind: api.EvDo, Cmd: command(api.OpDel, "k", "", "o")}},
		{`do 0 add "k" "-7"`, api.Event{Kind: api.EvDo, Cmd: command(api.OpAdd, "k", "-7", "")}},
		{`do 0 lock ""`, api.Event{Kind: api.EvDo, Cmd: command(api.OpLock, "", "", "")}},
		{`do 0 unlock "" "x"`, api.Event{Kind: api.EvDo, Cmd: command(api.OpUnlock, "", "x", "")}},
		{`do 0 fence "` + long + `" "` + long + `" "` + long + `"`, api.Event{Kind: api.EvDo, Cmd: command(api.OpFence, long, long, long)}},
		{`do 0 end "" "" "\x0a"`, api.Event{Kind: api.EvDo, Cmd: command(api.OpEnd, "", "", "\n")}},
		{`crash 1`, api.Event{Kind: api.EvCrash, A: 1}},
		{`restart 2`, api.Event{Kind: api.EvRestart, A: 2}},
		{`tear 1 0`, api.Event{Kind: api.EvTear, A: 1}},
		{`tear 2 ` + bigest, api.Event{Kind: api.EvTear, A: 2, N: big}},
		{`leave 2`, api.Event{Kind: api.EvLeave, A: 2}},
		{`cut 0 2`, api.Event{Kind: api.EvCut, B: 2}},
		{`heal 2 0`, api.Event{Kind: api.EvHeal, A: 2}},
		{`delay 0 1 1`, api.Event{Kind: api.EvDelay, B: 1, N: 1}},
		{`delay 1 2 16`, api.Event{Kind: api.EvDelay, A: 1, B: 2, N: 16}},
		{`split 0 15 3`, api.Event{Kind: api.EvSplit, Sides: []int{0, 15, 3}}},
		{`drop 0`, api.Event{Kind: api.EvDrop}},
		{`drop ` + bigest, api.Event{Kind: api.EvDrop, A: big}},
		{`dup 3`, api.Event{Kind: api.EvDup, A: 3}},
		{`dup ` + bigest, api.Event{Kind: api.EvDup, A: big}},
		{`now 99`, api.Event{Kind: api.EvNow, A: 99}},
		{`now ` + bigest, api.Event{Kind: api.EvNow, A: big}},
		{`hold 0 1`, api.Event{Kind: api.EvHold, N: 1}},
		{`hold ` + bigest + ` 16`, api.Event{Kind: api.EvHold, A: big, N: 16}},
		{`flip 0 0`, api.Event{Kind: api.EvFlip}},
		{`flip ` + bigest + ` ` + bigest, api.Event{Kind: api.EvFlip, A: big, N: big}},
		{`inject 1 0 "QV\x01"`, api.Event{Kind: api.EvInject, A: 1, Body: []byte("QV\x01")}},
		{`inject 0 2 ""`, api.Event{Kind: api.EvInject, B: 2}},
		{`inject 0 2 "` + strings.Repeat("c", api.MaxPacket) + `"`, api.Event{Kind: api.EvInject, B: 2, Body: []byte(strings.Repeat("c", api.MaxPacket))}},
	}
}

func config() api.Config {
	return api.Config{Nodes: 3, Window: 4, Base: 2, Step: 1, Cap: 8, Room: 500, Floor: 0, Votes: []int{1, 1, 1}}
}

const header = "quorate 1\nnodes 3 window 4 base 2 step 1 cap 8 room 500 floor 0\nvotes 1 1 1\n"

// plain makes an empty list nil, all through, so that the two count as the same.
func plainEvent(e api.Event) api.Event {
	if len(e.Body) == 0 {
		e.Body = nil
	}
	if len(e.Sides) == 0 {
		e.Sides = nil
	}
	return e
}

func plainScript(s api.Script) api.Script {
	events := make([]api.Event, len(s.Events))
	for i, e := range s.Events {
		events[i] = plainEvent(e)
	}
	s.Events = events
	if len(s.Config.Votes) == 0 {
		s.Config.Votes = nil
	}
	return s
}

func plainMarks(l []api.Mark) []api.Mark {
	marks := make([]api.Mark, len(l))
	for i, m := range l {
		if len(m.Members) == 0 {
			m.Members = nil
		}
		if len(m.Trans) == 0 {
			m.Trans = nil
		}
		if len(m.Body) == 0 {
			m.Body = nil
		}
		marks[i] = m
	}
	return marks
}

func sameEvent(a, b api.Event) bool { return reflect.DeepEqual(plainEvent(a), plainEvent(b)) }

func sameScript(a, b api.Script) bool { return reflect.DeepEqual(plainScript(a), plainScript(b)) }

func sameMarks(a, b []api.Mark) bool { return reflect.DeepEqual(plainMarks(a), plainMarks(b)) }

// wildCount is often at an end of its bounds.
func wildCount(r *rand.Rand) int {
	switch r.Intn(6) {
	case 0:
		return 0
	case 1:
		return big - r.Intn(2)
	case 2:
		return r.Intn(int(^uint(0)>>1)) % (big + 1)
	}
	return r.Intn(20)
}

func wildBytes(r *rand.Rand, most int) []byte {
	b := make([]byte, r.Intn(most+1))
	for i := range b {
		b[i] = byte(r.Intn(256))
		if r.Intn(2) == 0 {
			b[i] = "\"\\x ~a0\t\n\x7f"[r.Intn(10)]
		}
	}
	return b
}

// wildEvent is writable for so many nodes (more than one).
func wildEvent(r *rand.Rand, nodes int) api.Event {
	e := api.Event{Kind: r.Intn(19)}
	switch e.Kind {
	case api.EvTick, api.EvCrash, api.EvRestart, api.EvLeave:
		e.A = r.Intn(nodes)
	case api.EvSend:
		e.A, e.Body = r.Intn(nodes), wildBytes(r, 40)
	case api.EvDo:
		e.A = r.Intn(nodes)
		e.Cmd = command(1+r.Intn(9), string(wildBytes(r, 16)), string(wildBytes(r, 16*r.Intn(2))), string(wildBytes(r, 16*r.Intn(2))))
	case api.EvTear:
		e.A, e.N = r.Intn(nodes), wildCount(r)
	case api.EvCut, api.EvHeal, api.EvDelay, api.EvInject:
		e.A = r.Intn(nodes)
		e.B = (e.A + 1 + r.Intn(nodes-1)) % nodes
		if e.Kind == api.EvDelay {
			e.N = 1 + r.Intn(16)
		}
		if e.Kind == api.EvInject {
			e.Body = wildBytes(r, 60)
		}
	case api.EvSplit:
		e.Sides = make([]int, nodes)
		for i := range e.Sides {
			e.Sides[i] = r.Intn(16)
		}
	case api.EvDrop, api.EvDup, api.EvNow:
		e.A = wildCount(r)
	case api.EvHold:
		e.A, e.N = wildCount(r), 1+r.Intn(16)
	case api.EvFlip:
		e.A, e.N = wildCount(r), wildCount(r)
	}
	return e
}

func wildScript(r *rand.Rand) api.Script {
	c := api.Config{Nodes: 2 + r.Intn(15), Window: 1 + r.Intn(8), Cap: 1 + r.Intn(64), Room: 1 + r.Intn(20000), Floor: wildCount(r)}
	c.Base, c.Step = 1+r.Intn(c.Cap), 1+r.Intn(c.Cap)
	c.Votes = make([]int, c.Nodes)
	for i := range c.Votes {
		c.Votes[i] = r.Intn(10)
	}
	c.Votes[r.Intn(c.Nodes)] = 1 + r.Intn(9)
	s := api.Script{Config: c}
	for range r.Intn(20) {
		s.Events = append(s.Events, wildEvent(r, c.Nodes))
	}
	return s
}

func wildMark(r *rand.Rand) api.Mark {
	m := api.Mark{At: wildCount(r), Kind: 1 + r.Intn(16), Node: wildCount(r), Inc: wildCount(r)}
	some := func() bool { return r.Intn(3) == 0 }
	if some() {
		m.ID = api.ViewID{Epoch: wildCount(r), Lead: wildCount(r), Inc: wildCount(r), Cid: wildCount(r)}
	}
	for some() {
		m.Members = append(m.Members, api.Member{Pid: wildCount(r), Inc: wildCount(r), Cid: wildCount(r)})
	}
	for some() {
		m.Trans = append(m.Trans, wildCount(r))
	}
	for _, field := range []*int{&m.Sender, &m.Seq, &m.Pos, &m.N} {
		if some() {
			*field = wildCount(r)
		}
	}
	if some() {
		m.Body = wildBytes(r, 12)
	}
	if some() {
		m.Cmd = api.Command{Client: wildCount(r), Inc: wildCount(r), Req: wildCount(r), Op: wildCount(r), Key: string(wildBytes(r, 4)), Val: string(wildBytes(r, 4)), Old: string(wildBytes(r, 4))}
	}
	if some() {
		m.Result = api.Result{Code: wildCount(r), Val: string(wildBytes(r, 4)), N: wildCount(r) * (1 - 2*r.Intn(2))}
	}
	if some() {
		m.Err = api.Errno(r.Intn(1000))
	}
	return m
}

func wildMarks(r *rand.Rand) []api.Mark {
	l := make([]api.Mark, r.Intn(8))
	for i := range l {
		l[i] = wildMark(r)
	}
	return l
}

// spoil changes a text a little.
func spoil(r *rand.Rand, text string) string {
	const pieces = " \t\n\"\\x/,=-#0123456789abcdefklnorstuv\x00\x7f\xc8\xc3\xa9"
	b := []byte(text)
	for range 1 + r.Intn(2) {
		at := r.Intn(len(b) + 1)
		switch c := pieces[r.Intn(len(pieces))]; {
		case r.Intn(3) == 0 && at < len(b):
			b[at] = c
		case r.Intn(2) == 0 && at < len(b):
			b = append(b[:at:at], b[at+1:]...)
		default:
			b = append(b[:at:at], append([]byte{c}, b[at:]...)...)
		}
	}
	return string(b)
}

// scribble writes over a list and its spare room.
func scribble[T any](l []T, with T) {
	l = l[:cap(l)]
	for i := range l {
		l[i] = with
	}
}

func wantEvent(t *testing.T, promise, line string, nodes int, got, want api.Event) {
	t.Helper()
	if !sameEvent(got, want) {
		t.Errorf("%s: ParseEvent(%.80q, %d) = %.200v, want %.200v", promise, line, nodes, got, want)
	}
}

package link_test

import (
	"math/rand"
	"slices"
	"strconv"
	"testing"

	"quorate/api"
	"quorate/link"
)

// end is one of two nodes that talk to one another, with all that it has ever told.
type end struct {
	*link.Mux
	peer   int
	pushed []string
	come   []string
	frames []api.Frame
	acks   []api.Ack
}

// pair is two ends with streams to one another.
type pair struct {
	ends   [2]*end
	window int
	rooms  [2]int
}

func newPair(t *testing.T, window int, rooms [2]int) *pair {
	t.Helper()
	return &pair{[2]*end{
		{Mux: joined(t, 5, 1, window, rooms[0], 0, 4), peer: 4},
		{Mux: joined(t, 5, 4, window, rooms[1], 1), peer: 1},
	}, window, rooms}
}

func (p *pair) other(k int) *end { return p.ends[1-k] }

func (p *pair) push(k int) {
	body := strconv.Itoa(k) + "." + strconv.Itoa(len(p.ends[k].pushed))
	if p.ends[k].Push(p.ends[k].peer, []byte(body)) == api.OK {
		p.ends[k].pushed = append(p.ends[k].pushed, body)
	}
}

// give hands a frame of the other end to end k.
func (p *pair) give(t *testing.T, k int, f api.Frame) {
	t.Helper()
	l, e := p.ends[k].Take(p.ends[k].peer, f)
	if e != api.OK {
		t.Fatalf("L10: Take of %v, which the other end told: error %d", f, e)
	}
	for _, b := range l {
		p.ends[k].come = append(p.ends[k].come, string(b))
	}
}

func (p *pair) answer(t *testing.T, k int, a api.Ack) {
	t.Helper()
	if e := p.ends[k].Acked(p.ends[k].peer, a); e != api.OK {
		t.Fatalf("L10: Acked of %v, which the other end told: error %d", a, e)
	}
}

func (p *pair) listen(k int) {
	e := p.ends[k]
	e.frames = append(e.frames, e.Frames(e.peer)...)
}

func (p *pair) askOwed(k int) {
	e := p.ends[k]
	if a, ok := e.Owed(e.peer); ok {
		e.acks = append(e.acks, a)
	}
}

// check holds both streams against L10.
func (p *pair) check(t *testing.T) {
	t.Helper()
	for k, e := range p.ends {
		o := p.other(k)
		if len(e.come) > len(o.pushed) || !slices.Equal(e.come, o.pushed[:len(e.come)]) {
			t.Fatalf("L10: %v came out of %v", e.come, o.pushed)
		}
		got, sent := e.Got(e.peer), o.Sent(o.peer)
		if got != len(e.come) || sent != len(o.pushed) || got > sent {
			t.Fatalf("L10: Got %d of %d that came out, Sent %d of %d that were pushed", got, len(e.come), sent, len(o.pushed))
		}
		if answered := sent - o.Waiting(o.peer); answered > got {
			t.Fatalf("L10: %d are answered, Got %d", answered, got)
		}
	}
}

func pick[T any](r *rand.Rand, l []T) []T {
	if len(l) == 0 {
		return nil
	}
	k := r.Intn(len(l))
	return l[k : k+1]
}

// step does anything that may happen to the two.
func (p *pair) step(t *testing.T, r *rand.Rand) {
	t.Helper()
	k := r.Intn(2)
	switch r.Intn(8) {
	case 0, 1:
		p.push(k)
	case 2:
		p.listen(k)
	case 3:
		p.askOwed(k)
	case 4:
		for _, a := range pick(r, p.other(k).acks) {
			p.answer(t, k, a)
		}
	case 5: // the latest, so that old ones do not drown it
		if acks := p.other(k).acks; len(acks) > 0 {
			p.answer(t, k, acks[len(acks)-1])
		}
	default:
		for _, f := range pick(r, p.other(k).frames) {
			p.give(t, k, f)
		}
	}
}

// turn carries all that Frames tells to the other side, and what is owed there back.
func (p *pair) turn(t *testing.T) {
	t.Helper()
	for k, e := range p.ends {
		o := p.other(k)
		for _, f := range e.Frames(e.peer) {
			p.give(t, 1-k, f)
		}
		if a, ok := o.Owed(o.peer); ok {
			p.answer(t, k, a)
		}
	}
}

func (p *pair) turns() int {
	most := 0
	for _, e := range p.ends {
		most = max(most, (e.Waiting(e.peer)+p.window-1)/p.window)
	}
	return most
}

func (p *pair) wantWhole(t *testing.T) {
	t.Helper()
	for k, e := range p.ends {
		o := p.other(k)
		if !slices.Equal(e.come, o.pushed) || e.Room(e.peer) != p.rooms[k] || e.Waiting(e.peer) != 0 {
			t.Fatalf("L11: %d of %d came out, Room %d of %d", len(e.come), len(o.pushed), e.Room(e.peer), p.rooms[k])
		}
	}
}

func TestWhateverTheNetworkDoes(t *testing.T) {
	r := rand.New(rand.NewSource(10))
	for range 300 {
		window := 1 + r.Intn(6)
		p := newPair(t, window, [2]int{window + r.Intn(9), window + r.Intn(9)})
		for range r.Intn(600) {
			p.step(t, r)
			p.check(t)
		}
		for range p.turns() {
			p.turn(t)
			p.check(t)
		}
		p.wantWhole(t)
	}
}

// TestTurnsAreNeeded: one turn fewer does not do, where nothing had come yet.
func TestTurnsAreNeeded(t *testing.T) {
	for window := 1; window <= 4; window++ {
		for pushed := 1; pushed <= 9; pushed++ {
			p := newPair(t, window, [2]int{9, 9})
			for range pushed {
				p.push(0)
			}
			for range p.turns() - 1 {
				p.turn(t)
			}
			if left := p.ends[0].Waiting(4); left != (pushed-1)%window+1 {
				t.Errorf("L11: window %d, %d pushed: ahead of the last turn %d are left", window, pushed, left)
			}
			p.turn(t)
			p.wantWhole(t)
		}
	}
}

// TestOtherTags: L12, at any point of a talk.
func TestOtherTags(t *testing.T) {
	r := rand.New(rand.NewSource(12))
	for range 100 {
		p, twin := newPair(t, 3, [2]int{5, 5}), newPair(t, 3, [2]int{5, 5})
		seed := r.Int63()
		steps, twinSteps := rand.New(rand.NewSource(seed)), rand.New(rand.NewSource(seed))
		for range 100 {
			p.step(t, steps)
			twin.step(t, twinSteps)
			for k, e := range p.ends {
				o := p.other(k)
				for _, tag := range otherTags() {
					for seq := range 5 {
						if l, err := e.Take(e.peer, frame(tag, e.Got(e.peer)+seq, "x")); len(l) != 0 || err == api.OK {
							t.Fatalf("L12: a frame with the tag %v gave %q, error %d", tag, l, err)
						}
						if err := e.Acked(e.peer, api.Ack{Tag: tag, Upto: o.Got(o.peer) + seq}); err == api.OK {
							t.Fatalf("L12: an ack with the tag %v was taken", tag)
						}
					}
				}
				if got, want := look(e.Mux, e.peer), look(twin.ends[k].Mux, e.peer); !sameSeen(got, want) {
					t.Fatalf("L12: what bears another tag had an effect: %v, want %v", got, want)
				}
			}
		}
		for k, e := range p.ends {
			if got, want := spend(e.Mux, e.peer, 3), spend(twin.ends[k].Mux, e.peer, 3); !sameHidden(got, want) {
				t.Fatalf("L12: what bears another tag had an effect: %v, want %v", got, want)
			}
		}
	}
}

// TestOtherTagsAtReset: what was told ahead of a Reset has no effect behind it.
func TestOtherTagsAtReset(t *testing.T) {
	p := newPair(t, 2, [2]int{4, 4})
	p.push(0)
	p.push(0)
	p.listen(0)
	old := p.ends[0].frames
	for _, f := range old {
		p.give(t, 1, f)
	}
	p.askOwed(1)
	reset(t, p.ends[0].Mux, tagU, 4)
	reset(t, p.ends[1].Mux, tagU, 1)
	push(t, p.ends[0].Mux, 4, "new", "newer")
	for _, f := range old {
		if l, e := p.ends[1].Take(1, f); len(l) != 0 || e != api.ErrTag {
			t.Errorf("L12: an old frame: %q, error %d, want ErrTag", l, e)
		}
	}
	for _, a := range p.ends[1].acks {
		if e := p.ends[0].Acked(4, a); e != api.ErrTag {
			t.Errorf("L12: an old ack: error %d, want ErrTag", e)
		}
	}
	wantNumbers(t, p.ends[0].Mux, 4, numbers{sent: 2, waiting: 2, room: 2})
	wantNumbers(t, p.ends[1].Mux, 1, numbers{room: 4})
	wantOwed(t, p.ends[1].Mux, 1, api.Ack{}, false)
}

// TestGreatest: the greatest room and window, all of it under way at once, and coming from its far end.
func TestGreatest(t *testing.T) {
	a := joined(t, 2, 0, api.MaxRoom, api.MaxRoom, 1)
	b := joined(t, 2, 1, api.MaxRoom, api.MaxRoom, 0)
	for round := range 3 {
		for k := range api.MaxRoom {
			push(t, a, 1, strconv.Itoa(round*api.MaxRoom+k+1))
		}
		if e := a.Push(1, []byte("x")); e != api.ErrFull {
			t.Fatalf("L3: Push: error %d, want ErrFull", e)
		}
		frames := a.Frames(1)
		if len(frames) != api.MaxRoom {
			t.Fatalf("L5: %d frames, want %d", len(frames), api.MaxRoom)
		}
		for _, f := range slices.Backward(frames[1:]) {
			if l, e := b.Take(0, f); len(l) != 0 || e != api.OK {
				t.Fatalf("L7: Take of %d = %d pieces, error %d", f.Seq, len(l), e)
			}
		}
		l, e := b.Take(0, frames[0])
		if len(l) != api.MaxRoom || e != api.OK {
			t.Fatalf("L7: Take of the first = %d pieces, error %d", len(l), e)
		}
		for k, body := range l {
			if want := strconv.Itoa(round*api.MaxRoom + k + 1); string(body) != want {
				t.Fatalf("L7: piece %s is %q", want, body)
			}
		}
		for range api.MaxRoom {
			acked(t, a, 1, a.Sent(1)-a.Waiting(1)+1)
		}
		wantNumbers(t, a, 1, numbers{sent: b.Got(0), room: api.MaxRoom})
	}
}

// TestLongRun: numbers go on and on while little is kept.
func TestLongRun(t *testing.T) {
	p := newPair(t, 3, [2]int{7, 4})
	for range 5000 {
		for k := range p.ends {
			p.push(k)
			p.push(k)
		}
		p.turn(t)
	}
	p.turn(t)
	p.check(t)
	p.wantWhole(t)
}

package group_test

import (
	"bytes"
	"fmt"
	"math/rand"
	"slices"
	"testing"

	"quorate/api"
	"quorate/group"
)

// spell: an incarnation's time in a view, as its notes tell it.
type spell struct {
	view      api.View
	trans     []int
	delivered []api.Note
	safe      int // up to here it is told safe
	held      int // up to here that was held against what the others have
	accepted  [][]byte
}

// life: an incarnation, and what it has told.
type life struct {
	pid, inc int
	g        *group.Group
	spells   []*spell
	blocked  bool // behind a block, ahead of the next install
	left     bool
	last     []api.Out // of its last tick
}

// story: Groups of one configuration that live and die.
type story struct {
	t     *testing.T
	r     *rand.Rand
	c     api.Config
	now   []*life
	lives []*life
	pool  []api.Out
	poll  bool   // behind every call
	sent  int    // blobs
	kinds [8]int // how many packets of each kind were given out
}

func begin(t *testing.T, r *rand.Rand, c api.Config) *story {
	s := &story{t: t, r: r, c: c, poll: r.Intn(2) == 0}
	for p := range c.Nodes {
		s.now = append(s.now, nil)
		s.born(p, 1)
	}
	return s
}

func (s *story) born(p, inc int) {
	l := &life{pid: p, inc: inc, g: made(s.t, s.c, p, inc)}
	s.now[p] = l
	s.lives = append(s.lives, l)
}

// spellOf: an incarnation's time in the view with this ID.
func (l *life) spellOf(id api.ViewID) *spell {
	for _, x := range l.spells {
		if x.view.ID == id {
			return x
		}
	}
	return nil
}

func (s *story) lifeOf(m api.Member) *life {
	for _, l := range s.lives {
		if l.pid == m.Pid && l.inc == m.Inc {
			return l
		}
	}
	s.t.Fatalf("G8: %v is no incarnation that there is", m)
	return nil
}

// hear takes an incarnation's notes.
func (s *story) hear(l *life) {
	s.t.Helper()
	for _, n := range l.g.Poll() {
		var x *spell
		if len(l.spells) > 0 {
			x = l.spells[len(l.spells)-1]
		}
		switch n.Kind {
		case api.NoteBlock:
			if x == nil || l.blocked {
				s.t.Fatalf("G11: %d/%d tells a block outside a view", l.pid, l.inc)
			}
			l.blocked = true
		case api.NoteInstall:
			s.install(l, x, n)
		case api.NoteDeliver:
			x.delivered = append(x.delivered, n)
		case api.NoteSafe:
			if l.blocked || n.Pos <= x.safe {
				s.t.Fatalf("G3: %d/%d tells safe %d behind safe %d (blocked %v)", l.pid, l.inc, n.Pos, x.safe, l.blocked)
			}
			x.safe = n.Pos
		default:
			s.t.Fatalf("%d/%d tells %s", l.pid, l.inc, word(n))
		}
	}
}

func (s *story) install(l *life, x *spell, n api.Note) {
	s.t.Helper()
	who := fmt.Sprintf("%d/%d", l.pid, l.inc)
	if (x != nil) != l.blocked {
		s.t.Fatalf("G11: %s installs %v, blocked %v", who, n.View, l.blocked)
	}
	lost, epoch := 0, s.c.Floor
	if x != nil {
		epoch, lost = x.view.ID.Epoch, len(x.accepted)
		for _, d := range x.delivered {
			if d.Sender == l.pid {
				lost--
			}
		}
	}
	if n.View.ID.Epoch <= epoch || !slices.ContainsFunc(n.View.Members, func(m api.Member) bool { return m.Pid == l.pid && m.Inc == l.inc }) {
		s.t.Fatalf("G8: %s installs %v behind the epoch %d", who, n.View, epoch)
	}
	if n.Lost != lost {
		s.t.Fatalf("G3: %s installs %v, lost %d, want %d", who, n.View, n.Lost, lost)
	}
	l.blocked = false
	l.spells = append(l.spells, &spell{view: n.View, trans: n.Trans})
}

// did: behind a call on an incarnation.
func (s *story) did(l *life) {
	s.t.Helper()
	if !s.poll {
		return
	}
	s.hear(l)
	if l.g.Blocked() != (l.blocked || len(l.spells) == 0) {
		s.t.Fatalf("G11: %d/%d: Blocked %v, but the notes say otherwise", l.pid, l.inc, l.g.Blocked())
	}
	if k := len(l.spells) - 1; k >= 0 && l.spells[k].safe > l.spells[k].held {
		s.wantTrueSafe(l, l.spells[k])
	}
}

// wantTrueSafe: what is told safe, all have delivered (as far as they were polled).
func (s *story) wantTrueSafe(l *life, x *spell) {
	s.t.Helper()
	n := 0
	for n < len(x.delivered) && x.delivered[n].Pos <= x.safe {
		n++
	}
	for _, m := range x.view.Members {
		y := s.lifeOf(m).spellOf(x.view.ID)
		if n > 0 && (y == nil || len(y.delivered) < n || !sameNote(x.delivered[n-1], y.delivered[n-1])) {
			s.t.Fatalf("G12: %d/%d tells safe %d in %v, but %v has not %s", l.pid, l.inc, x.safe, x.view, m, word(x.delivered[n-1]))
		}
	}
	x.held = x.safe
}

func (s *story) tick(l *life) {
	out, e := l.g.Tick()
	if e != api.OK {
		s.t.Fatalf("G6: Tick of %d/%d: error %d", l.pid, l.inc, e)
	}
	l.last = out
	s.pool = append(s.pool, out...)
	for _, p := range packets(s.t, out) {
		s.kinds[p.Kind]++
	}
	if len(s.pool) > 600 {
		s.pool = slices.Clone(s.pool[200:])
	}
	s.did(l)
}

func (s *story) send(l *life) {
	s.t.Helper()
	size := []int{0, 1, 9, 248, 249, 700, 4000}[s.r.Intn(7)]
	s.sent++
	blob := bytes.Repeat(fmt.Appendf(nil, "%d/%d.%d ", l.pid, l.inc, s.sent), size/4+1)[:size]
	id, blocked := l.g.View().ID, l.g.Blocked()
	n, e := l.g.Send(blob)
	if blocked != (e == api.ErrBlocked) {
		s.t.Fatalf("G4: Send of %d/%d, blocked %v: error %d", l.pid, l.inc, blocked, e)
	}
	if e == api.OK {
		s.hear(l)
		x := l.spellOf(id)
		x.accepted = append(x.accepted, blob)
		if n != len(x.accepted) {
			s.t.Fatalf("G4: %d/%d: the blob %d of a view has the number %d", l.pid, l.inc, len(x.accepted), n)
		}
	}
	s.did(l)
}

// step: something happens.
func (s *story) step() {
	l := s.now[s.r.Intn(len(s.now))]
	switch k := s.r.Intn(1000); {
	case k < 180:
		s.tick(l)
	case k < 210:
		s.send(l)
	case k < 240:
		s.hear(l)
	case k < 241:
		if e := l.g.Leave(); e != api.OK {
			s.t.Fatalf("G5: Leave: error %d", e)
		}
		l.left = true
	case k < 243:
		s.hear(l)
		s.born(l.pid, l.inc+1+s.r.Intn(2))
	case len(s.pool) > 0:
		back := s.r.Intn(len(s.pool))
		if s.r.Intn(8) > 0 {
			back = s.r.Intn(min(len(s.pool), 40))
		}
		o := s.pool[len(s.pool)-1-back]
		s.now[o.Dst].g.Receive(o.Bytes)
		s.did(s.now[o.Dst])
	}
}

// sweep: all that the present ones gave out last comes over, each pair's in its order, but for what is lost; then all tick.
func (s *story) sweep(lost func(src, dst int) bool) {
	rest := map[[2]int][]api.Out{}
	var pairs [][2]int
	for _, l := range s.now {
		for _, o := range l.last {
			k := [2]int{l.pid, o.Dst}
			if len(rest[k]) == 0 {
				pairs = append(pairs, k)
			}
			rest[k] = append(rest[k], o)
		}
	}
	for len(pairs) > 0 {
		i := s.r.Intn(len(pairs))
		k := pairs[i]
		if dst := s.now[k[1]]; !lost(k[0], k[1]) {
			dst.g.Receive(rest[k][0].Bytes)
			s.did(dst)
		}
		if rest[k] = rest[k][1:]; len(rest[k]) == 0 {
			pairs = slices.Delete(pairs, i, i+1)
		}
	}
	for _, l := range s.now {
		l.last = nil
		s.tick(l)
	}
}

func nothingLost(src, dst int) bool { return false }

// weather: paths that are cut, and how often a packet is lost on the others.
func (s *story) weather() func(src, dst int) bool {
	cut := map[[2]int]int{}
	side, oneIn := s.r.Intn(1<<s.c.Nodes), []int{3, 10, 40, 1000}[s.r.Intn(4)]
	for p := range s.c.Nodes {
		for q := range s.c.Nodes {
			cut[[2]int{p, q}] = side>>p&1 ^ side>>q&1
		}
	}
	switch s.r.Intn(4) {
	case 0: // no path is cut
		clear(cut)
	case 1: // one way alone
		clear(cut)
		cut[[2]int{s.r.Intn(s.c.Nodes), s.r.Intn(s.c.Nodes)}] = 1
	}
	return func(src, dst int) bool { return cut[[2]int{src, dst}] == 1 || s.r.Intn(oneIn) == 0 }
}

// goThrough lets so many spans of time go by, each with its weather, and in some of them all kinds of steps.
func (s *story) goThrough(spans int) {
	for range spans {
		lost, wild := s.weather(), s.r.Intn(3) == 0
		for range 2 + s.r.Intn(14) {
			for _, l := range s.now {
				if s.r.Intn(3) == 0 {
					s.send(l)
				}
			}
			if wild {
				for range s.r.Intn(40) {
					s.step()
				}
			}
			s.sweep(lost)
		}
	}
}

// wantTrue holds all that was told so far against G8 to G10 and G12.
func (s *story) wantTrue() {
	s.t.Helper()
	for _, l := range s.lives {
		s.hear(l)
	}
	for i, l := range s.lives {
		for j, x := range l.spells {
			s.wantTrueSafe(l, x)
			s.wantSent(x)
			for _, other := range s.lives[:i] {
				y := other.spellOf(x.view.ID)
				if y == nil {
					continue
				}
				if !slices.Equal(x.view.Members, y.view.Members) {
					s.t.Fatalf("G8: %v and %v have one ID", x.view, y.view)
				}
				n := min(len(x.delivered), len(y.delivered))
				if !slices.EqualFunc(x.delivered[:n], y.delivered[:n], sameNote) {
					s.t.Fatalf("G10: in %v %d/%d delivers %s, %d/%d %s", x.view, l.pid, l.inc, words(x.delivered), other.pid, other.inc, words(y.delivered))
				}
				if j+1 < len(l.spells) {
					s.wantSynchrony(l, other, x, y, l.spells[j+1])
				}
			}
		}
	}
}

// wantSynchrony: if the other one goes from the same view to the same next view, all is alike.
func (s *story) wantSynchrony(l, other *life, x, y, next *spell) {
	s.t.Helper()
	k := slices.Index(other.spells, y)
	if k+1 == len(other.spells) || other.spells[k+1].view.ID != next.view.ID {
		return
	}
	if len(x.delivered) != len(y.delivered) {
		s.t.Fatalf("G9: between %v and %v %d/%d delivers %s, %d/%d %s", x.view, next.view, l.pid, l.inc, words(x.delivered), other.pid, other.inc, words(y.delivered))
	}
	if !slices.Contains(next.trans, other.pid) || !slices.Contains(other.spells[k+1].trans, l.pid) {
		s.t.Fatalf("G9: %d/%d and %d/%d go from %v to %v, with Trans %v and %v", l.pid, l.inc, other.pid, other.inc, x.view, next.view, next.trans, other.spells[k+1].trans)
	}
}

// wantSent: each sender's blobs, from the first on, as that incarnation's Sends were given them in this view.
func (s *story) wantSent(x *spell) {
	s.t.Helper()
	count, pos := map[int]int{}, 0
	for _, d := range x.delivered {
		i := slices.IndexFunc(x.view.Members, func(m api.Member) bool { return m.Pid == d.Sender })
		count[d.Sender]++
		if i < 0 || d.Seq != count[d.Sender] || d.Pos <= pos {
			s.t.Fatalf("G10: in %v behind position %d: %s", x.view, pos, word(d))
		}
		pos = d.Pos
		y := s.lifeOf(x.view.Members[i]).spellOf(x.view.ID)
		if y == nil || d.Seq > len(y.accepted) || !bytes.Equal(y.accepted[d.Seq-1], d.Body) {
			s.t.Fatalf("G10: in %v: %s is not what was sent", x.view, word(d))
		}
	}
}

func wildConfig(r *rand.Rand) api.Config {
	limit := 1 + r.Intn(6)
	c := config(1+r.Intn(5), 1+r.Intn(4), 1+r.Intn(limit), 1+r.Intn(limit), limit)
	c.Floor = r.Intn(3)
	return c
}

func TestHolds(t *testing.T) {
	r := rand.New(rand.NewSource(1))
	safe, forwarded, synchronous := 0, 0, 0
	for range 300 {
		s := begin(t, r, wildConfig(r))
		s.goThrough(12)
		s.wantTrue()
		forwarded += s.kinds[api.KindForward]
		for _, l := range s.lives {
			for k, x := range l.spells {
				if len(x.view.Members) > 1 && x.safe > 0 {
					safe++
				}
				if k > 0 && len(x.trans) > 1 && len(l.spells[k-1].delivered) > 0 {
					synchronous++
				}
			}
		}
	}
	if safe < 1000 || forwarded < 300 || synchronous < 500 {
		t.Errorf("%d views in which something got safe, %d packets that forward, %d views that ended alike: the test is too weak", safe, forwarded, synchronous)
	}
}

// present: those of the present that have not left.
func (s *story) present() []*life {
	return slices.DeleteFunc(slices.Clone(s.now), func(l *life) bool { return l.left })
}

// together: whether these are in one view with just them, and not blocked.
func together(l []*life) bool {
	for _, x := range l {
		v := x.g.View()
		if x.g.Blocked() || v.ID != l[0].g.View().ID || len(v.Members) != len(l) {
			return false
		}
		for i, m := range v.Members {
			if m.Pid != l[i].pid || m.Inc != l[i].inc {
				return false
			}
		}
	}
	return true
}

func TestCalm(t *testing.T) {
	r := rand.New(rand.NewSource(2))
	longest := 0
	for k := range 300 {
		c := wildConfig(r)
		if k%60 == 0 {
			c = config(api.MaxNodes, 1+r.Intn(api.MaxWindow), 1, 1, 1)
		}
		s := begin(t, r, c)
		s.goThrough(r.Intn(6))
		s.poll = true
		for _, l := range s.lives {
			s.hear(l)
		}
		l := s.present()
		if len(l) == 0 {
			continue
		}
		n := 0
		for ; n < 12 && !together(l); n++ {
			s.sweep(nothingLost)
		}
		longest = max(longest, n)
		if !together(l) {
			t.Fatalf("G15: behind 12 calm rounds %d nodes are not in one view", len(l))
		}
		s.wantSafe(l)
		s.wantTrue()
	}
	if longest < 3 {
		t.Errorf("no past needed more than %d rounds to become calm: the test is too weak", longest)
	}
}

// wantSafe: what is accepted now is delivered and told safe in time, and the view stays.
func (s *story) wantSafe(l []*life) {
	s.t.Helper()
	id, chunks := l[0].g.View().ID, 0
	for _, x := range l {
		for range s.r.Intn(5) {
			s.send(x)
		}
		chunks = max(chunks, x.g.Queue())
	}
	rounds := 4*((chunks+s.c.Window-1)/s.c.Window) + 20
	for range rounds {
		s.sweep(nothingLost)
		if !together(l) || l[0].g.View().ID != id {
			s.t.Fatalf("G15: the view %v was left", id)
		}
	}
	for _, x := range l {
		y := x.spellOf(id)
		for _, sender := range l {
			got := 0
			for _, d := range y.delivered {
				if d.Sender == sender.pid && d.Pos <= y.safe {
					got++
				}
			}
			if want := len(sender.spellOf(id).accepted); got != want {
				s.t.Fatalf("G15: behind %d rounds %d of %d blobs of %d are safe at %d", rounds, got, want, sender.pid, x.pid)
			}
		}
	}
}

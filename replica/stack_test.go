package replica_test

import (
	"maps"
	"math/rand"
	"testing"

	"quorate/api"
	"quorate/group"
	"quorate/journal"
)

// station is a site over a real group and a real journal.
type station struct {
	*site
	group   *group.Group
	journal *journal.Journal
	files   api.Disk
	out     []api.Out // of its last tick
}

// network is stations over paths that lose and cut.
type network struct {
	*troupe
	stations []*station
	sides    []int // by node: who is on another side is not reached
	loss     int   // in a hundred
}

// boot makes the next incarnation of a node out of its files.
func (n *network) boot(s *station) {
	n.t.Helper()
	j, l, ws, e := journal.Open(s.files)
	if e != api.OK {
		n.fail(s.site, "its files cannot be opened: error %d", e)
	}
	s.files = journal.Apply(s.files, ws, -1)
	s.journal, s.disk, s.out = j, l, nil
	n.start(s.site)
	c := n.c
	c.Floor = s.top
	if s.group, e = group.New(c, s.pid, s.inc); e != api.OK {
		n.fail(s.site, "it has no group: error %d", e)
	}
}

// work lets all notes and blobs of a step work through; the writes that it makes.
func (n *network) work(s *station) []api.Write {
	n.t.Helper()
	var ws []api.Write
	for goesOn := true; goesOn; {
		goesOn = false
		for _, x := range s.group.Poll() {
			goesOn = true
			ws = append(ws, n.note(s, x)...)
		}
		for b, ok := s.r.Next(); ok; b, ok = s.r.Next() {
			if _, e := s.group.Send(append([]byte{1}, b...)); e != api.OK {
				break
			}
			goesOn = true
			s.r.Sent()
		}
	}
	return ws
}

// note hands a note on, and writes what the replica tells of it.
func (n *network) note(s *station, x api.Note) []api.Write {
	n.t.Helper()
	switch x.Kind {
	case api.NoteInstall:
		s.hall = &hall{view: x.View}
	case api.NoteDeliver:
		if x.Body[0] != 1 {
			return nil
		}
		x.Body = x.Body[1:]
	}
	n.take(s.site, x)
	var ws []api.Write
	for _, r := range s.loose {
		w, e := s.journal.Append(r)
		if e != api.OK {
			n.fail(s.site, "a record of %d bytes is refused: error %d", len(r.Body), e)
		}
		ws = append(ws, w...)
	}
	s.disk, s.loose = append(s.disk, s.loose...), nil
	return ws
}

// step ends one: the writes are made, and then the packets go out.
func (n *network) step(s *station, out []api.Out, mayTear bool) {
	n.t.Helper()
	if mayTear && n.rand.Intn(400) == 0 {
		n.tear(s)
		return
	}
	s.files = journal.Apply(s.files, n.work(s), -1)
	s.out = append(s.out, out...)
}

// tear ends a step in the midst of its writes: the node is down, and nothing of the step was told to anybody.
func (n *network) tear(s *station) {
	n.t.Helper()
	deeds, requests, snapshots := maps.Clone(n.deeds), maps.Clone(n.requests), maps.Clone(n.snapshots)
	ws := n.work(s)
	n.deeds, n.requests, n.snapshots = deeds, requests, snapshots
	s.files = journal.Apply(s.files, ws, n.rand.Intn(journal.Cost(ws)+1))
	s.isUp, s.out = false, nil
	n.seen["crashes"]++
}

// round lets what the last round's ticks gave out arrive, and then all tick.
func (n *network) round(isCalm bool) {
	n.t.Helper()
	type flight struct {
		from int
		out  api.Out
	}
	var flights []flight
	for _, s := range n.stations {
		for _, o := range s.out {
			flights = append(flights, flight{s.pid, o})
		}
		s.out = nil
	}
	for _, f := range flights {
		s := n.stations[f.out.Dst]
		isLost := n.sides[f.from] != n.sides[s.pid] || n.rand.Intn(100) < n.loss
		if s.isUp && (isCalm || !isLost) {
			s.group.Receive(f.out.Bytes)
			n.step(s, nil, !isCalm)
		}
	}
	for _, s := range n.stations {
		if !s.isUp && (isCalm || n.rand.Intn(20) == 0) {
			n.boot(s)
		} else if s.isUp {
			if s.journal.Size() > 16384 {
				ws, _ := s.journal.Compact(s.r.Checkpoint())
				s.files, s.disk = journal.Apply(s.files, ws, -1), []api.Record{s.r.Checkpoint()}
			}
			out, _ := s.group.Tick()
			n.step(s, out, !isCalm)
			if n.rand.Intn(3) == 0 && s.isUp {
				n.submit(s.site)
				n.step(s, nil, false)
			}
			if n.rand.Intn(8) == 0 && s.isUp {
				s.group.Send(append([]byte{0}, make([]byte, n.rand.Intn(600))...))
			}
		}
	}
	if n.rand.Intn(25) == 0 {
		for p := range n.sides {
			n.sides[p] = n.rand.Intn(2)
		}
		n.loss = n.rand.Intn(3) * 10
	}
}

// TestOverTheGroup: R10 to R14 and P9 to P12, over real groups and journals, with losses, cuts, crashes and torn writes.
func TestOverTheGroup(t *testing.T) {
	seen := map[string]int{}
	for seed := range 80 {
		r := rand.New(rand.NewSource(int64(seed)))
		c := config(1 + r.Intn(4))
		c.Window = 1 + r.Intn(4)
		w := &troupe{t: t, rand: r, c: c, deeds: map[int]deed{}, requests: map[[3]int]int{}, snapshots: map[int]string{}, seen: seen}
		n := &network{troupe: w, sides: make([]int, c.Nodes)}
		for p := range c.Nodes {
			s := &station{site: &site{pid: p}}
			w.sites, n.stations = append(w.sites, s.site), append(n.stations, s)
			n.boot(s)
		}
		for range 300 {
			n.round(false)
		}
		for range 60 {
			n.round(true)
		}
		before := seen["answers"]
		for range 60 {
			n.round(true)
		}
		for _, s := range w.sites {
			if status := s.r.Status(); status.Mode != api.ModeActive || len(s.hall.view.Members) != c.Nodes {
				t.Fatalf("P11: in a settled view the status of node %d is %+v", s.pid, status)
			}
		}
		if n := seen["answers"] - before; n < 3*c.Nodes {
			t.Fatalf("P11: %d answers in 60 calm rounds", n)
		}
	}
	for what, least := range map[string]int{"switches": 1000, "entries": 5000, "answers": 5000, "crashes": 300, "replayed": 1000, "answers at a switch": 10} {
		if seen[what] < least {
			t.Errorf("the test is too weak: %d %s", seen[what], what)
		}
	}
}

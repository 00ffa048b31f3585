package link_test

import (
	"math"
	"math/rand"
	"slices"
	"testing"

	"quorate/api"
	"quorate/link"
)

// model is the chapter in plain lists: of each peer all that was ever pushed and all that has come.
type model struct {
	nodes, self, window, room int
	tag                       api.ViewID
	peers                     map[int]*modelPeer
}

type modelPeer struct {
	pushed   []string
	answered int
	come     map[int]string
	got      int
	owed     bool
}

func isWhole(id api.ViewID) bool {
	ok := id.Lead >= 0 && id.Lead < api.MaxNodes
	for _, v := range []int{id.Epoch, id.Inc, id.Cid} {
		ok = ok && v >= 1 && v <= api.MaxCount
	}
	return ok
}

func (m *model) reset(tag api.ViewID, peers []int) api.Errno {
	if !isWhole(tag) {
		return api.ErrTag
	}
	for k, p := range peers {
		if p < 0 || p >= m.nodes || p == m.self || k > 0 && peers[k-1] >= p {
			return api.ErrArg
		}
	}
	m.tag, m.peers = tag, map[int]*modelPeer{}
	for _, p := range peers {
		m.peers[p] = &modelPeer{come: map[int]string{}}
	}
	return api.OK
}

func (m *model) push(p int, body []byte) api.Errno {
	s := m.peers[p]
	switch {
	case s == nil:
		return api.ErrPeer
	case len(body) == 0 || len(body) > api.MaxItem:
		return api.ErrArg
	case len(s.pushed)-s.answered == m.room:
		return api.ErrFull
	}
	s.pushed = append(s.pushed, string(body))
	return api.OK
}

func (m *model) frames(p int) []api.Frame {
	s := m.peers[p]
	var list []api.Frame
	for seq := s.answered + 1; seq <= len(s.pushed) && seq <= s.answered+m.window; seq++ {
		list = append(list, frame(m.tag, seq, s.pushed[seq-1]))
	}
	return list
}

func (m *model) acked(p int, a api.Ack) api.Errno {
	s := m.peers[p]
	switch {
	case s == nil:
		return api.ErrPeer
	case a.Upto < 0 || a.Upto > api.MaxCount:
		return api.ErrArg
	case a.Tag != m.tag:
		return api.ErrTag
	case a.Upto > s.answered+len(m.frames(p)):
		return api.ErrFar
	}
	s.answered = max(s.answered, a.Upto)
	return api.OK
}

func (m *model) take(p int, f api.Frame) ([]string, api.Errno) {
	s := m.peers[p]
	switch {
	case s == nil:
		return nil, api.ErrPeer
	case f.Seq < 1 || f.Seq > api.MaxCount || len(f.Body) == 0 || len(f.Body) > api.MaxItem:
		return nil, api.ErrArg
	case f.Tag != m.tag:
		return nil, api.ErrTag
	case f.Seq > s.got+m.window:
		return nil, api.ErrFar
	}
	s.owed = true
	if _, has := s.come[f.Seq]; !has {
		s.come[f.Seq] = string(f.Body)
	}
	var out []string
	for {
		body, has := s.come[s.got+1]
		if !has {
			return out, api.OK
		}
		out = append(out, body)
		s.got++
	}
}

func (m *model) owed(p int) (api.Ack, bool) {
	s := m.peers[p]
	if s == nil || !s.owed {
		return api.Ack{}, false
	}
	s.owed = false
	return api.Ack{Tag: m.tag, Upto: s.got}, true
}

func (m *model) look(p int) seen {
	s := m.peers[p]
	if s == nil {
		return seen{}
	}
	waiting := len(s.pushed) - s.answered
	return seen{numbers{len(s.pushed), waiting, m.room - waiting, s.got}, m.frames(p)}
}

func wildTag(r *rand.Rand) api.ViewID {
	list := append(otherTags(), tagT, tagT, tagT, tagT, tagT, tagT, tagU, tagU)
	return list[r.Intn(len(list))]
}

func wildBody(r *rand.Rand) []byte {
	lengths := []int{0, 1, 1, 1, 2, 2, 3, api.MaxItem, api.MaxItem + 1}
	b := make([]byte, lengths[r.Intn(len(lengths))])
	r.Read(b)
	return b
}

func wildNumber(r *rand.Rand, about int) int {
	if r.Intn(8) == 0 {
		return []int{math.MinInt, -1, 0, api.MaxCount, api.MaxCount + 1, math.MaxInt}[r.Intn(6)]
	}
	return about + r.Intn(7) - 2
}

func wildPeers(r *rand.Rand, nodes int) []int {
	var list []int
	for p := range nodes {
		if r.Intn(3) > 0 {
			list = append(list, p)
		}
	}
	if r.Intn(6) == 0 && len(list) > 1 {
		k := r.Intn(len(list))
		list[0], list[k] = list[k], list[0]
	}
	return list
}

// wildStep does one call on both, and holds the answers against each other.
func wildStep(t *testing.T, r *rand.Rand, m *link.Mux, o *model) {
	t.Helper()
	p := r.Intn(o.nodes+2) - 1
	if len(o.peers) > 0 && r.Intn(4) > 0 {
		for o.peers[p] == nil {
			p = r.Intn(o.nodes)
		}
	}
	var was modelPeer
	if o.peers[p] != nil {
		was = *o.peers[p]
	}
	tag := o.tag
	if r.Intn(5) == 0 {
		tag = wildTag(r)
	}
	switch r.Intn(20) {
	case 0:
		tag, peers := wildTag(r), wildPeers(r, o.nodes)
		if r.Intn(3) > 0 {
			peers = slices.DeleteFunc(peers, func(p int) bool { return p == o.self })
		}
		if got, want := m.Reset(tag, peers), o.reset(tag, peers); got != want {
			t.Fatalf("L2: Reset(%v, %v): error %d, want %d", tag, peers, got, want)
		}
	case 1, 2, 3, 4, 5, 6:
		body := wildBody(r)
		if got, want := m.Push(p, body), o.push(p, body); got != want {
			t.Fatalf("L3: Push(%d, %d bytes): error %d, want %d", p, len(body), got, want)
		}
	case 7, 8, 9:
		a := api.Ack{Tag: tag, Upto: wildNumber(r, was.answered)}
		if got, want := m.Acked(p, a), o.acked(p, a); got != want {
			t.Fatalf("L6: Acked(%d, %v): error %d, want %d", p, a, got, want)
		}
	case 10, 11:
		a, ok := m.Owed(p)
		if want, wantOk := o.owed(p); a != want || ok != wantOk {
			t.Fatalf("L8: Owed(%d) = %v, %v, want %v, %v", p, a, ok, want, wantOk)
		}
	default:
		f := api.Frame{Tag: tag, Seq: wildNumber(r, was.got), Body: wildBody(r)}
		l, e := m.Take(p, f)
		want, wantE := o.take(p, f)
		same := slices.EqualFunc(l, want, func(b []byte, s string) bool { return string(b) == s })
		if !same || e != wantE {
			t.Fatalf("L7: Take(%d, %.100v) = %.200q, error %d, want %.200q, %d", p, f, l, e, want, wantE)
		}
	}
}

func TestWildCalls(t *testing.T) {
	r := rand.New(rand.NewSource(41))
	for range 400 {
		o := &model{nodes: 1 + r.Intn(5)}
		o.self, o.window = r.Intn(o.nodes), 1+r.Intn(6)
		o.room = o.window + r.Intn(5)
		m := made(t, o.nodes, o.self, o.window, o.room)
		for range 400 {
			wildStep(t, r, m, o)
			for p := -1; p <= o.nodes; p++ {
				if got, want := look(m, p), o.look(p); !sameSeen(got, want) {
					t.Fatalf("L4, L5, L9: of %d it tells %.300v, want %.300v", p, got, want)
				}
			}
			if m.Tag() != o.tag {
				t.Fatalf("L2: the tag is %v, want %v", m.Tag(), o.tag)
			}
		}
	}
}

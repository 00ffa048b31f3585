package detect_test

import (
	"math"
	"math/rand"
	"testing"

	"quorate/api"
	"quorate/detect"
)

// model tells from what has happened, and at which own tick, who is heard: it keeps neither ages nor who was suspected.
type model struct {
	nodes, self, inc, base, step, limit int
	tick                                int
	left                                bool
	beats                               map[int]*lastBeat
	wrong                               map[int]int
}

// lastBeat is the last one of a node that was taken.
type lastBeat struct {
	inc, tick, at int
	mutual        bool
}

func (m *model) isOther(q int) bool { return 0 <= q && q < m.nodes && q != m.self }

func (m *model) timeout(q int) int {
	if !m.isOther(q) {
		return 0
	}
	return min(m.limit, m.base+m.wrong[q]*m.step)
}

func (m *model) known(q int) int {
	switch {
	case q == m.self:
		return m.inc
	case m.beats[q] != nil:
		return m.beats[q].inc
	}
	return 0
}

func (m *model) hears(q int) bool {
	b := m.beats[q]
	return b != nil && !m.left && m.tick-b.at <= m.timeout(q)
}

func (m *model) refuses(q, inc int, b api.Beat) api.Errno {
	bad := !m.isOther(q) || inc < 1 || inc > api.MaxCount || b.Tick < 0 || b.Tick > api.MaxCount || len(b.Hears) != m.nodes
	for _, x := range b.Hears {
		bad = bad || x < 0 || x > api.MaxCount
	}
	switch {
	case bad:
		return api.ErrArg
	case inc < m.known(q):
		return api.ErrOld
	case inc == m.known(q) && b.Tick <= m.beats[q].tick:
		return api.ErrStale
	}
	return api.OK
}

func (m *model) heard(q, inc int, b api.Beat) api.Errno {
	if e := m.refuses(q, inc, b); e != api.OK {
		return e
	}
	if inc == m.known(q) && !m.hears(q) && !m.left {
		m.wrong[q]++
	}
	m.beats[q] = &lastBeat{inc, b.Tick, m.tick, b.Hears[m.self] == m.inc}
	return api.OK
}

func (m *model) look() seen {
	s := seen{tick: m.tick, hears: make([]int, m.nodes), estimate: make([]int, m.nodes)}
	s.estimate[m.self] = m.inc
	if !m.left {
		s.hears[m.self] = m.inc
	}
	for q, b := range m.beats {
		if m.hears(q) {
			s.hears[q] = b.inc
		}
		if m.hears(q) && b.mutual {
			s.estimate[q] = b.inc
		}
	}
	s.beat = s.hears
	numbers := far()
	for q := range api.MaxNodes {
		numbers = append(numbers, q)
		if m.beats[q] != nil && !m.hears(q) {
			s.suspects = append(s.suspects, q)
		}
	}
	for _, q := range numbers {
		s.known = append(s.known, m.known(q))
		s.timeout = append(s.timeout, m.timeout(q))
		s.wrong = append(s.wrong, m.wrong[q])
	}
	return s
}

func newModel(r *rand.Rand) *model {
	m := &model{nodes: 1 + r.Intn(5), inc: 1 + r.Intn(4), beats: map[int]*lastBeat{}, wrong: map[int]int{}}
	if r.Intn(20) == 0 {
		m.nodes = api.MaxNodes
	}
	if r.Intn(20) == 0 {
		m.inc = api.MaxCount
	}
	m.self, m.limit, m.step = r.Intn(m.nodes), 1+r.Intn(8), 1+r.Intn(5)
	m.base = 1 + r.Intn(m.limit)
	return m
}

func wildNumber(r *rand.Rand, about int) int {
	if r.Intn(25) == 0 {
		return []int{math.MinInt, -1, 0, api.MaxCount, api.MaxCount + 1, math.MaxInt}[r.Intn(6)]
	}
	return about
}

func wildBeat(r *rand.Rand, m *model, q int) (int, api.Beat) {
	inc, tick := 1, 0
	if b := m.beats[q]; b != nil {
		inc, tick = b.inc, b.tick
	}
	if r.Intn(15) == 0 {
		inc += r.Intn(4) - 1
	}
	tick = min(api.MaxCount, tick+r.Intn(8)-2)
	b := api.Beat{Tick: wildNumber(r, tick), Hears: make([]int, m.nodes)}
	for k := range b.Hears {
		b.Hears[k] = r.Intn(4)
	}
	if r.Intn(2) == 0 {
		b.Hears[m.self] = m.inc
	}
	if r.Intn(20) == 0 {
		b.Hears[r.Intn(m.nodes)] = wildNumber(r, api.MaxCount)
	}
	if r.Intn(30) == 0 {
		b.Hears = append(b.Hears, 1)[r.Intn(3)%(m.nodes+1):]
	}
	return wildNumber(r, inc), b
}

// wildStep does one call on both, and holds the answers against each other.
func wildStep(t *testing.T, r *rand.Rand, d *detect.Detector, m *model) {
	t.Helper()
	switch {
	case r.Intn(200) == 0:
		d.Leave()
		m.left = true
	case r.Intn(3) == 0:
		d.Tick()
		m.tick++
	default:
		q := wildNumber(r, r.Intn(m.nodes))
		inc, b := wildBeat(r, m, q)
		if got, want := d.Heard(q, inc, b), m.heard(q, inc, b); got != want {
			t.Fatalf("D4: Heard(%d, %d, %v): error %d, want %d", q, inc, b, got, want)
		}
	}
}

func TestWildCalls(t *testing.T) {
	r := rand.New(rand.NewSource(5))
	for range 500 {
		m := newModel(r)
		d := made(t, m.nodes, m.self, m.inc, m.base, m.step, m.limit)
		for range 300 {
			if got, want := look(d), m.look(); !sameSeen(got, want) {
				t.Fatalf("D2 to D8, D13: it tells %v, want %v", got, want)
			}
			wildStep(t, r, d, m)
		}
	}
}

package order_test

import (
	"math"
	"math/rand"
	"slices"
	"testing"

	"quorate/api"
)

// model does what the chapter says in its own words, and keeps all that ever came and every position.
type model struct {
	view           api.View
	self, window   int
	came           []api.Data // in the order of their coming
	slots          []api.Slot // of position 1 and on
	done, prefix   int
	toldBy, seenOf map[int]int
	frozen         bool
}

func newModel(v api.View, self, window int) *model {
	return &model{view: v, self: self, window: window, toldBy: map[int]int{}, seenOf: map[int]int{self: 1}}
}

func (m *model) isMember(q int) bool {
	return slices.ContainsFunc(m.view.Members, func(x api.Member) bool { return x.Pid == q })
}

func (m *model) taken(s int) int {
	n := 0
	for _, d := range m.came {
		if d.Sender == s {
			n = d.Seq
		}
	}
	return n
}

// position of a message; 0: it has none.
func (m *model) position(d api.Data) int {
	return 1 + slices.Index(m.slots, api.Slot{Sender: d.Sender, Seq: d.Seq})
}

func (m *model) heldAll() []api.Data {
	var l []api.Data
	for _, d := range m.came {
		if p := m.position(d); p == 0 || p > m.prefix {
			l = append(l, d)
		}
	}
	return l
}

func (m *model) heldOf(s int) int {
	n := 0
	for _, d := range m.heldAll() {
		if d.Sender == s {
			n++
		}
	}
	return n
}

func (m *model) positionsOf(s int) int {
	n := 0
	for _, x := range m.slots {
		if x.Sender == s {
			n++
		}
	}
	return n
}

func (m *model) least() int {
	n := m.done
	for _, x := range m.view.Members {
		if x.Pid != m.self && m.toldBy[x.Pid] < n {
			n = m.toldBy[x.Pid]
		}
	}
	return n
}

func (m *model) rise(n int) {
	if n > m.prefix {
		m.prefix = n
	}
}

func (m *model) Send(body []byte) (api.Data, api.Errno) {
	if len(body) > api.MaxChunk {
		return api.Data{}, api.ErrArg
	}
	if m.frozen {
		return api.Data{}, api.ErrFrozen
	}
	if m.Free() == 0 {
		return api.Data{}, api.ErrWindow
	}
	d := api.Data{Sender: m.self, Seq: m.taken(m.self) + 1, Stable: m.prefix, Body: body}
	m.came = append(m.came, d)
	return d, api.OK
}

func isCount(v, from int) bool { return v >= from && v <= api.MaxCount }

func isNode(v int) bool { return v >= 0 && v < api.MaxNodes }

func isItem(it api.Item) bool {
	d := it.Data
	switch it.Kind {
	case 1:
		return isNode(d.Sender) && isCount(d.Seq, 1) && isCount(d.Stable, 0) && len(d.Body) <= 256 &&
			it.Pos == 0 && it.Stable == 0 && it.Slot == api.Slot{}
	case 2:
		return isCount(it.Pos, 1) && isCount(it.Stable, 0) && it.Stable < it.Pos && isNode(it.Slot.Sender) && isCount(it.Slot.Seq, 1) &&
			d.Sender == 0 && d.Seq == 0 && d.Stable == 0 && len(d.Body) == 0
	}
	return false
}

func (m *model) refuses(from int, it api.Item) api.Errno {
	isData := it.Kind == api.ItemData
	stable := it.Stable + it.Data.Stable
	switch {
	case !m.isMember(from) || from == m.self:
		return api.ErrSender
	case !isItem(it):
		return api.ErrArg
	case m.frozen:
		return api.ErrFrozen
	case isData && it.Data.Sender != from:
		return api.ErrSender
	case !isData && (from != m.view.Members[0].Pid || !m.isMember(it.Slot.Sender)):
		return api.ErrSender
	case isData && it.Data.Seq != m.taken(from)+1:
		return api.ErrGap
	case !isData && (it.Pos != len(m.slots)+1 || it.Slot.Seq != m.positionsOf(it.Slot.Sender)+1):
		return api.ErrGap
	case stable > m.done:
		return api.ErrFar
	}
	m.rise(stable)
	switch {
	case isData && m.heldOf(from) == m.window:
		return api.ErrWindow
	case !isData && len(m.slots)-m.prefix == len(m.view.Members)*m.window:
		return api.ErrWindow
	}
	return api.OK
}

func (m *model) Place(from int, it api.Item) api.Errno {
	if e := m.refuses(from, it); e != api.OK {
		return e
	}
	if it.Kind == api.ItemData {
		m.came = append(m.came, it.Data)
	} else {
		m.slots = append(m.slots, it.Slot)
	}
	return api.OK
}

func (m *model) Assign(most int) []api.Item {
	var l []api.Item
	if m.self != m.view.Members[0].Pid || m.frozen {
		return l
	}
	for _, d := range m.came {
		if len(l) >= most || len(m.slots)-m.prefix == len(m.view.Members)*m.window {
			break
		}
		if m.position(d) == 0 {
			m.slots = append(m.slots, api.Slot{Sender: d.Sender, Seq: d.Seq})
			l = append(l, slot(len(m.slots), m.prefix, d.Sender, d.Seq))
		}
	}
	return l
}

func (m *model) Deliver(most int) []api.Msg {
	var l []api.Msg
	if m.frozen || most <= 0 {
		return l
	}
	for _, s := range m.slots[m.done:] {
		k := slices.IndexFunc(m.came, func(d api.Data) bool { return d.Sender == s.Sender && d.Seq == s.Seq })
		if k < 0 || len(l) == most {
			break
		}
		m.done++
		l = append(l, api.Msg{Pos: m.done, Sender: s.Sender, Seq: s.Seq, Body: m.came[k].Body})
	}
	m.rise(m.least())
	return l
}

func (m *model) Hear(q int, s api.Stable) api.Errno {
	switch {
	case !m.isMember(q) || q == m.self:
		return api.ErrSender
	case !isCount(s.Done, 0) || s.Prefix < 0 || s.Prefix > s.Done:
		return api.ErrArg
	case s.View != m.view.ID:
		return api.ErrTag
	case m.frozen:
		return api.ErrFrozen
	case s.Prefix > m.done:
		return api.ErrFar
	}
	m.seenOf[q] = 1
	if s.Done > m.toldBy[q] {
		m.toldBy[q] = s.Done
	}
	m.rise(s.Prefix)
	m.rise(m.least())
	return api.OK
}

func (m *model) Freeze() { m.frozen = true }

func (m *model) Told() api.Stable {
	return api.Stable{View: m.view.ID, Done: m.done, Prefix: m.prefix}
}

func (m *model) Content(nodes int) api.Flush {
	f := api.Flush{Prev: m.view.ID, Base: m.prefix, Slots: m.slots[m.prefix:]}
	for p := 0; p < nodes && p < api.MaxNodes; p++ {
		f.Have = append(f.Have, m.taken(p))
	}
	return f
}

func (m *model) Messages() []api.Data {
	l := m.heldAll()
	slices.SortFunc(l, func(a, b api.Data) int {
		if a.Sender != b.Sender {
			return a.Sender - b.Sender
		}
		return a.Seq - b.Seq
	})
	return l
}

func (m *model) Frozen() bool    { return m.frozen }
func (m *model) Seen(q int) bool { return m.seenOf[q] == 1 }
func (m *model) Done() int       { return m.done }
func (m *model) Prefix() int     { return m.prefix }
func (m *model) Held() int       { return len(m.heldAll()) }

func (m *model) Free() int {
	if m.frozen {
		return 0
	}
	return m.window - m.heldOf(m.self)
}

func (m *model) Own() (int, int) {
	n := 0
	for _, s := range m.slots[:m.done] {
		if s.Sender == m.self {
			n++
		}
	}
	return m.taken(m.self), n
}

// actor is what calls are made on: an Order, or the model of one.
type actor interface {
	Send(body []byte) (api.Data, api.Errno)
	Place(from int, it api.Item) api.Errno
	Assign(most int) []api.Item
	Deliver(most int) []api.Msg
	Hear(q int, s api.Stable) api.Errno
	Freeze()
}

func wildNumber(r *rand.Rand, about int) int {
	if r.Intn(50) == 0 {
		return []int{math.MinInt, -1, 0, 1, api.MaxNodes, api.MaxCount, api.MaxCount + 1, math.MaxInt}[r.Intn(8)]
	}
	if r.Intn(25) == 0 {
		return about + 1 - 2*r.Intn(2)
	}
	return about
}

func wildMember(r *rand.Rand, v api.View) int {
	return wildNumber(r, v.Members[r.Intn(len(v.Members))].Pid)
}

func wildBody(r *rand.Rand) []byte {
	body := make([]byte, r.Intn(4))
	if r.Intn(30) == 0 {
		body = make([]byte, api.MaxChunk-1+r.Intn(3))
	}
	r.Read(body)
	return body
}

// placedOf is how many positions a sender has, from what is told: those that are dropped, and those in Slots.
func (s *seen) placedOf(sender int) int {
	n := s.content.Have[sender]
	for _, d := range s.messages {
		if d.Sender == sender {
			n--
		}
	}
	for _, x := range s.content.Slots {
		if x.Sender == sender {
			n++
		}
	}
	return n
}

// wildStable is a prefix that may come with an item: mostly none that is news.
func wildStable(r *rand.Rand, s seen) int {
	if r.Intn(8) == 0 {
		return wildNumber(r, s.done)
	}
	return wildNumber(r, r.Intn(s.prefix+1))
}

func wildData(r *rand.Rand, v api.View, s seen) (int, api.Item) {
	from := wildMember(r, v)
	d := api.Data{Sender: wildNumber(r, from), Seq: 1, Stable: wildStable(r, s), Body: wildBody(r)}
	if isNode(d.Sender) {
		d.Seq = wildNumber(r, s.content.Have[d.Sender]+1)
	}
	return from, api.Item{Kind: wildNumber(r, api.ItemData), Data: d}
}

func wildSlot(r *rand.Rand, v api.View, s seen) (int, api.Item) {
	x := api.Slot{Sender: wildMember(r, v), Seq: 1}
	if isNode(x.Sender) {
		x.Seq = wildNumber(r, s.placedOf(x.Sender)+1)
	}
	pos := wildNumber(r, s.prefix+len(s.content.Slots)+1)
	return wildNumber(r, v.Members[0].Pid), api.Item{Kind: wildNumber(r, api.ItemSlot), Pos: pos, Stable: wildStable(r, s), Slot: x}
}

func wildHear(r *rand.Rand, v api.View, s seen) (int, api.Stable) {
	told := api.Stable{View: v.ID, Done: wildNumber(r, r.Intn(s.done+3))}
	if told.Done > 0 {
		told.Prefix = wildNumber(r, r.Intn(1+min(told.Done, s.prefix)))
	}
	if r.Intn(20) == 0 {
		told.View.Cid += r.Intn(2)
	}
	return wildMember(r, v), told
}

// wildCall is one call that can be made on several, about what one of them tells.
func wildCall(r *rand.Rand, v api.View, self int, s seen) func(actor) answer {
	k := r.Intn(120)
	switch {
	case k == 0 && r.Intn(3) == 0:
		return func(a actor) answer { a.Freeze(); return answer{} }
	case k < 20:
		body := wildBody(r)
		return func(a actor) answer { d, e := a.Send(body); return answer{e: e, data: d} }
	case k < 35:
		most := wildNumber(r, r.Intn(4))
		return func(a actor) answer { return answer{items: a.Assign(most)} }
	case k < 60:
		most := wildNumber(r, r.Intn(4))
		return func(a actor) answer { return answer{msgs: a.Deliver(most)} }
	case k < 85:
		q, told := wildHear(r, v, s)
		return func(a actor) answer { return answer{e: a.Hear(q, told)} }
	case k < 100 || self == v.Members[0].Pid:
		from, it := wildData(r, v, s)
		return func(a actor) answer { return answer{e: a.Place(from, it)} }
	}
	from, it := wildSlot(r, v, s)
	return func(a actor) answer { return answer{e: a.Place(from, it)} }
}

// wildView is a view of some nodes, one of them, and a window.
func wildView(r *rand.Rand) (api.View, int, int) {
	count := 1 + r.Intn(4)
	if r.Intn(30) == 0 {
		count = api.MaxNodes
	}
	pids := r.Perm(api.MaxNodes)[:count]
	slices.Sort(pids)
	v := view(pids...)
	v.ID.Lead = r.Intn(api.MaxNodes)
	self := pids[0]
	if r.Intn(2) == 0 {
		self = pids[r.Intn(count)]
	}
	return v, self, 1 + r.Intn(api.MaxWindow)*r.Intn(2)
}

func TestWildCalls(t *testing.T) {
	r := rand.New(rand.NewSource(7))
	count := map[api.Errno]int{}
	delivered, dropped := 0, 0
	for range 1500 {
		v, self, window := wildView(r)
		o, m := made(t, v, self, window), newModel(v, self, window)
		for range 150 {
			s := look(m)
			if got := look(o); !sameSeen(got, s) {
				t.Fatalf("O3, O6 to O10: it tells %v, want %v", got, s)
			}
			do := wildCall(r, v, self, s)
			got, want := do(o), do(m)
			if !sameAnswer(got, want) {
				t.Fatalf("O2, O4 to O7: it answers %v, want %v; ahead of it %v", got, want, s)
			}
			count[got.e]++
			delivered += len(got.msgs)
		}
		dropped += o.Prefix()
	}
	for _, e := range []api.Errno{api.OK, api.ErrArg, api.ErrSender, api.ErrFrozen, api.ErrGap, api.ErrFar, api.ErrWindow, api.ErrTag} {
		if count[e] < 100 {
			t.Errorf("the calls are too tame: error %d came %d times", e, count[e])
		}
	}
	if delivered < 10000 || dropped < 5000 {
		t.Errorf("the calls are too tame: %d delivered, %d dropped", delivered, dropped)
	}
}

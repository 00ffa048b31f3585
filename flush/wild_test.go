package flush_test

import (
	"bytes"
	"math"
	"math/rand"
	"slices"
	"testing"

	"quorate/api"
	"quorate/flush"
)

func isCount(v, from int) bool { return v >= from && v <= api.MaxCount }

func isNode(v, nodes int) bool { return v >= 0 && v < nodes }

func isID(id api.ViewID) bool {
	return isCount(id.Epoch, 1) && isNode(id.Lead, api.MaxNodes) && isCount(id.Inc, 1) && isCount(id.Cid, 1)
}

// isContent: 8.1 in its own words.
func isContent(f api.Flush) bool {
	if !isID(f.Prev) || len(f.Have) < 1 || len(f.Have) > 16 || !isCount(f.Base, 0) || len(f.Slots) > 128 || f.Base+len(f.Slots) > api.MaxCount {
		return false
	}
	for _, n := range f.Have {
		if !isCount(n, 0) {
			return false
		}
	}
	for i, s := range f.Slots {
		if !isNode(s.Sender, len(f.Have)) || !isCount(s.Seq, 1) || slices.Contains(f.Slots[:i], s) {
			return false
		}
	}
	return true
}

// contradict: two contents, in the chapter's words.
func contradict(f, g api.Flush) bool {
	for i, s := range f.Slots {
		for j, x := range g.Slots {
			samePlace := f.Base+1+i == g.Base+1+j
			if samePlace != (s == x) {
				return true
			}
		}
	}
	return false
}

// baseOf is the base of a list of contents, or why they do not go together.
func baseOf(all []api.Flush) (int, api.Errno) {
	base := 0
	for _, f := range all {
		if !isContent(f) {
			return 0, api.ErrArg
		}
		base = max(base, f.Base)
	}
	for i, f := range all {
		for _, g := range all[:i] {
			if f.Prev != g.Prev || len(f.Have) != len(g.Have) {
				return 0, api.ErrPrev
			}
		}
	}
	for i, f := range all {
		for _, g := range all[:i] {
			if contradict(f, g) {
				return 0, api.ErrFork
			}
		}
	}
	return base, api.OK
}

func has(f api.Flush, s api.Slot) bool { return s.Seq <= f.Have[s.Sender] }

// slotAt is what stands at a position, if one of the contents has a slot for it.
func slotAt(all []api.Flush, pos int) (api.Slot, bool) {
	for _, f := range all {
		if i := pos - f.Base - 1; i >= 0 && i < len(f.Slots) {
			return f.Slots[i], true
		}
	}
	return api.Slot{}, false
}

func cutOf(all []api.Flush, base int) int {
	k := base
	for {
		s, known := slotAt(all, k+1)
		if !known || !slices.ContainsFunc(all, func(f api.Flush) bool { return has(f, s) }) {
			return k
		}
		k++
	}
}

func modelCut(all []api.Flush) (int, api.Errno) {
	if len(all) == 0 || len(all) > 16 {
		return 0, api.ErrArg
	}
	base, e := baseOf(all)
	if e != api.OK {
		return 0, e
	}
	return cutOf(all, base), api.OK
}

func sorted(l []api.Slot) []api.Slot {
	slices.SortFunc(l, func(a, b api.Slot) int {
		switch {
		case a == b:
			return 0
		case a.Sender < b.Sender || a.Sender == b.Sender && a.Seq < b.Seq:
			return -1
		}
		return 1
	})
	return l
}

func modelLacks(done int, own api.Flush, all []api.Flush) ([]api.Slot, api.Errno) {
	if !isCount(done, 0) || len(all) == 0 || len(all) > 16 {
		return nil, api.ErrArg
	}
	together := append([]api.Flush{own}, all...)
	base, e := baseOf(together)
	if e != api.OK {
		return nil, e
	}
	if done < base {
		return nil, api.ErrFork
	}
	var l []api.Slot
	for k := done + 1; k <= cutOf(together, base); k++ {
		if s, _ := slotAt(together, k); !has(own, s) {
			l = append(l, s)
		}
	}
	return sorted(l), api.OK
}

func modelDuty(self, q int, who []int, all []api.Flush) ([]api.Slot, api.Errno) {
	if len(who) != len(all) || !slices.Contains(who, self) || !slices.Contains(who, q) || self == q {
		return nil, api.ErrArg
	}
	for i, p := range who {
		if !isNode(p, 16) || slices.Contains(who[:i], p) {
			return nil, api.ErrArg
		}
	}
	cut, e := modelCut(all)
	if e != api.OK {
		return nil, e
	}
	base, _ := baseOf(all)
	var l []api.Slot
	for k := base + 1; k <= cut; k++ {
		s, _ := slotAt(all, k)
		lowest, lacks := 99, false
		for i, p := range who {
			if has(all[i], s) {
				lowest = min(lowest, p)
			} else if p == q {
				lacks = true
			}
		}
		if lowest == self && lacks {
			l = append(l, s)
		}
	}
	return sorted(l), api.OK
}

func modelRest(done int, all []api.Flush, msgs []api.Data) ([]api.Msg, api.Errno) {
	if !isCount(done, 0) {
		return nil, api.ErrArg
	}
	cut, e := modelCut(all)
	if e != api.OK {
		return nil, e
	}
	if base, _ := baseOf(all); done < base {
		return nil, api.ErrFork
	}
	var l []api.Msg
	for k := done + 1; k <= cut; k++ {
		s, _ := slotAt(all, k)
		i := slices.IndexFunc(msgs, func(d api.Data) bool { return d.Sender == s.Sender && d.Seq == s.Seq })
		if i < 0 {
			return nil, api.ErrMissing
		}
		l = append(l, api.Msg{Pos: k, Sender: s.Sender, Seq: s.Seq, Body: msgs[i].Body})
	}
	return l, api.OK
}

// story is an order of messages of which contents tell parts.
type story struct {
	nodes, from int // from: the position ahead of the first
	slots       []api.Slot
}

func wildStory(r *rand.Rand) story {
	s := story{nodes: 1 + r.Intn(4)}
	if r.Intn(20) == 0 {
		s.nodes = api.MaxNodes
	}
	next := make([]int, s.nodes)
	for p := range next {
		next[p] = 1 + r.Intn(3)
	}
	if r.Intn(10) == 0 {
		next[0] = api.MaxCount - 20
	}
	for range r.Intn(14) {
		p := r.Intn(s.nodes)
		s.slots = append(s.slots, api.Slot{Sender: p, Seq: next[p]})
		next[p]++
	}
	s.from = r.Intn(5)
	if r.Intn(10) == 0 {
		s.from = api.MaxCount - len(s.slots) - r.Intn(2)
	}
	return s
}

// content is what a node may tell of the story.
func (s story) content(r *rand.Rand) api.Flush {
	f := api.Flush{Prev: viewID, Have: make([]int, s.nodes)}
	low := r.Intn(1 + len(s.slots)/(1+r.Intn(6)))
	high := low + r.Intn(len(s.slots)-low+1)
	f.Base, f.Slots = s.from+low, slices.Clone(s.slots[low:high])
	for _, x := range s.slots {
		if r.Intn(4) > 0 {
			f.Have[x.Sender] = max(f.Have[x.Sender], x.Seq)
		}
		if r.Intn(6) == 0 {
			f.Have[x.Sender] = x.Seq - 1
		}
	}
	return f
}

// contents of so many nodes that go together.
func (s story) contents(r *rand.Rand, count int) []api.Flush {
	var l []api.Flush
	for range count {
		l = append(l, s.content(r))
	}
	return l
}

// messages are some or all of those of the story, and others.
func (s story) messages(r *rand.Rand) []api.Data {
	var l []api.Data
	for _, x := range s.slots {
		if r.Intn(40) > 0 {
			l = append(l, api.Data{Sender: x.Sender, Seq: x.Seq, Stable: r.Intn(3), Body: wildBody(r)})
		}
		if r.Intn(10) == 0 {
			l = append(l, api.Data{Sender: x.Sender + r.Intn(2), Seq: x.Seq - r.Intn(2), Body: wildBody(r)})
		}
	}
	r.Shuffle(len(l), func(i, j int) { l[i], l[j] = l[j], l[i] })
	return l
}

func wildBody(r *rand.Rand) []byte {
	body := make([]byte, r.Intn(4))
	r.Read(body)
	return body
}

func wildNumber(r *rand.Rand, about int) int {
	if r.Intn(3) == 0 {
		return []int{math.MinInt, -1, 0, 1, api.MaxNodes, api.MaxCount, api.MaxCount + 1, math.MaxInt}[r.Intn(8)]
	}
	return about + 1 - 2*r.Intn(2)
}

// spoil changes one thing in a content.
func spoil(r *rand.Rand, f *api.Flush) {
	k := r.Intn(len(f.Have))
	at := r.Intn(len(f.Slots) + 1)
	switch r.Intn(8) {
	case 0:
		id := []*int{&f.Prev.Epoch, &f.Prev.Lead, &f.Prev.Inc, &f.Prev.Cid}[r.Intn(4)]
		*id = wildNumber(r, *id)
	case 1:
		f.Base = wildNumber(r, f.Base)
	case 2:
		f.Have[k] = wildNumber(r, f.Have[k])
	case 3:
		f.Have = f.Have[:k]
	case 4:
		f.Have = append(f.Have, make([]int, r.Intn(17))...)
	case 5:
		f.Slots = slices.Insert(f.Slots, at, api.Slot{Sender: k, Seq: 1 + r.Intn(5)})
	case 6:
		if at < len(f.Slots) {
			f.Slots[at].Seq = wildNumber(r, f.Slots[at].Seq)
		}
	case 7:
		if at < len(f.Slots) {
			f.Slots[at].Sender = wildNumber(r, f.Slots[at].Sender)
		}
	}
}

// wildWho are so many nodes' numbers, mostly with no fault.
func wildWho(r *rand.Rand, count int) []int {
	who := r.Perm(max(count, api.MaxNodes))[:count]
	if r.Intn(12) == 0 && count > 0 {
		who[r.Intn(count)] = wildNumber(r, who[0])
	}
	if r.Intn(30) == 0 {
		who = append(who, r.Intn(16))
	}
	return who
}

func wildCount(r *rand.Rand) int {
	if r.Intn(12) == 0 {
		return []int{0, api.MaxNodes, api.MaxNodes + 1}[r.Intn(3)]
	}
	return 1 + r.Intn(4)
}

func wildDone(r *rand.Rand, s story) int {
	done := s.from + r.Intn(len(s.slots)+2)
	if r.Intn(20) == 0 {
		return wildNumber(r, done)
	}
	return done
}

// TestWildContents holds the reckoning against the chapter's words.
func TestWildContents(t *testing.T) {
	r := rand.New(rand.NewSource(3))
	count := map[string]map[api.Errno]int{"cut": {}, "lacks": {}, "duty": {}, "rest": {}}
	listed := 0
	for range 20000 {
		s := wildStory(r)
		all, own := s.contents(r, wildCount(r)), s.content(r)
		if len(all) > 0 && r.Intn(2) == 0 {
			own = all[r.Intn(len(all))]
		}
		if r.Intn(3) == 0 && len(all) > 0 {
			k := r.Intn(len(all))
			all[k].Slots, all[k].Have = slices.Clone(all[k].Slots), slices.Clone(all[k].Have)
			spoil(r, &all[k])
		}
		if r.Intn(12) == 0 {
			own = s.content(r)
			spoil(r, &own)
		}
		k, e := modelCut(all)
		wantCut(t, k, e, all...)
		count["cut"][e]++

		done := wildDone(r, s)
		l, e := modelLacks(done, own, all)
		wantLacks(t, done, own, all, l, e)
		count["lacks"][e]++
		listed += len(l)

		who := wildWho(r, len(all))
		for range 3 {
			self, q := r.Intn(16), r.Intn(16)
			if len(who) > 0 && r.Intn(8) > 0 {
				self, q = who[r.Intn(len(who))], who[r.Intn(len(who))]
			}
			l, e = modelDuty(self, q, who, all)
			wantDuty(t, self, q, who, all, l, e)
			count["duty"][e]++
			listed += len(l)
		}

		msgs := s.messages(r)
		rest, e := modelRest(done, all, msgs)
		wantRest(t, done, all, msgs, rest, e)
		count["rest"][e]++
		listed += len(rest)
	}
	for name, by := range count {
		for _, e := range []api.Errno{api.OK, api.ErrArg, api.ErrPrev, api.ErrFork, api.ErrMissing} {
			if (e != api.ErrMissing || name == "rest") && by[e] < 100 {
				t.Errorf("the contents are too tame: error %d of %s came %d times", e, name, by[e])
			}
		}
	}
	if listed < 10000 {
		t.Errorf("the contents are too tame: %d slots and messages were listed", listed)
	}
}

// actor is what calls are made on: a store, or the model of one.
type actor interface {
	Take(q, inc int, f api.Flush) api.Errno
	Missing(prev api.ViewID, who []api.Member) []int
	Contents(prev api.ViewID, who []api.Member) ([]api.Flush, api.Errno)
	Begin(prev api.ViewID)
	Add(f api.Forward) api.Errno
	Messages() []api.Data
}

var _ actor = (*flush.Store)(nil)

// model is a store in the chapter's own words.
type model struct {
	nodes int
	kept  map[int]api.Flush
	incs  map[int]int
	begun []api.ViewID
	msgs  []api.Data // as they came
}

func newModel(nodes int) *model {
	return &model{nodes: nodes, kept: map[int]api.Flush{}, incs: map[int]int{}}
}

func (m *model) Take(q, inc int, f api.Flush) api.Errno {
	if !isNode(q, m.nodes) || !isCount(inc, 1) || !isContent(f) || len(f.Have) != m.nodes {
		return api.ErrArg
	}
	g, there := m.kept[q]
	keep := func() api.Errno { m.kept[q], m.incs[q] = f, inc; return api.OK }
	switch {
	case !there || m.incs[q] < inc:
		return keep()
	case m.incs[q] > inc:
		return api.ErrOld
	case f.Prev.Epoch < g.Prev.Epoch:
		return api.ErrStale
	case f.Prev.Epoch > g.Prev.Epoch:
		return keep()
	case sameFlush(f, g):
		return api.OK
	}
	return api.ErrFork
}

func (m *model) Missing(prev api.ViewID, who []api.Member) []int {
	var l []int
	for _, x := range who {
		if f, there := m.kept[x.Pid]; !there || m.incs[x.Pid] != x.Inc || f.Prev != prev {
			l = append(l, x.Pid)
		}
	}
	return l
}

func (m *model) Contents(prev api.ViewID, who []api.Member) ([]api.Flush, api.Errno) {
	if len(m.Missing(prev, who)) > 0 {
		return nil, api.ErrMissing
	}
	var l []api.Flush
	for _, x := range who {
		l = append(l, m.kept[x.Pid])
	}
	return l, api.OK
}

func (m *model) Begin(prev api.ViewID) { m.begun, m.msgs = append(m.begun, prev), nil }

// known is a message that is kept with the sender and the number of another.
func (m *model) known(d api.Data) (api.Data, bool) {
	for _, x := range m.msgs {
		if x.Sender == d.Sender && x.Seq == d.Seq {
			return x, true
		}
	}
	return api.Data{}, false
}

func (m *model) Add(f api.Forward) api.Errno {
	if !isID(f.Prev) || len(f.Msgs) > 128 {
		return api.ErrArg
	}
	for i, d := range f.Msgs {
		if !isNode(d.Sender, m.nodes) || !isCount(d.Seq, 1) || !isCount(d.Stable, 0) || len(d.Body) > 256 {
			return api.ErrArg
		}
		if i > 0 && (d.Sender < f.Msgs[i-1].Sender || d.Sender == f.Msgs[i-1].Sender && d.Seq <= f.Msgs[i-1].Seq) {
			return api.ErrArg
		}
	}
	if len(m.begun) == 0 || m.begun[len(m.begun)-1] != f.Prev {
		return api.ErrPrev
	}
	var fresh []api.Data
	for _, d := range f.Msgs {
		x, there := m.known(d)
		if there && !sameData(x, d) {
			return api.ErrFork
		}
		if !there {
			fresh = append(fresh, d)
		}
	}
	if len(m.msgs)+len(fresh) > 128 {
		return api.ErrFull
	}
	m.msgs = append(m.msgs, fresh...)
	return api.OK
}

func (m *model) Messages() []api.Data {
	l := slices.Clone(m.msgs)
	slices.SortFunc(l, func(a, b api.Data) int {
		if a.Sender != b.Sender {
			return a.Sender - b.Sender
		}
		if a.Seq < b.Seq {
			return -1
		}
		return 1
	})
	return l
}

// answer is what a call answers.
type answer struct {
	e        api.Errno
	pids     []int
	contents []api.Flush
	msgs     []api.Data
}

func sameAnswer(a, b answer) bool {
	return a.e == b.e && slices.Equal(a.pids, b.pids) &&
		slices.EqualFunc(a.contents, b.contents, sameFlush) && slices.EqualFunc(a.msgs, b.msgs, sameData)
}

// wildID is one of few views, or none.
func wildID(r *rand.Rand) api.ViewID {
	id := viewID
	switch r.Intn(30) {
	case 0:
		return api.ViewID{}
	case 1:
		id.Inc = wildNumber(r, id.Inc)
	case 2, 3, 4, 5:
		id.Cid++
	case 6, 7, 8, 9, 10:
		id.Epoch += r.Intn(3) - 1
	}
	return id
}

// wildOne is a content of few that there are.
func wildOne(r *rand.Rand, nodes int) api.Flush {
	f := api.Flush{Prev: wildID(r), Base: r.Intn(8) / 7, Have: make([]int, nodes)}
	if r.Intn(8) == 0 {
		f.Slots = slots(0, 1)
	}
	f.Have[0] = r.Intn(8) / 7
	if r.Intn(15) == 0 {
		spoil(r, &f)
	}
	return f
}

// wildForward has few messages out of few, or many.
func wildForward(r *rand.Rand, nodes int) api.Forward {
	f := api.Forward{Prev: wildID(r)}
	chance := 1 + r.Intn(6)
	long := 3 + r.Intn(2)*r.Intn(100)
	for p := range nodes {
		for seq := 1; seq <= long; seq++ {
			if r.Intn(6) < chance && len(f.Msgs) < 129 {
				f.Msgs = append(f.Msgs, message(p, seq, r.Intn(300)/299, []string{"a", ""}[r.Intn(300)/299]))
			}
		}
	}
	if len(f.Msgs) > 0 && r.Intn(12) == 0 {
		k := r.Intn(len(f.Msgs))
		n := []*int{&f.Msgs[k].Sender, &f.Msgs[k].Seq, &f.Msgs[k].Stable}[r.Intn(3)]
		*n = wildNumber(r, *n)
	}
	if len(f.Msgs) > 0 && r.Intn(30) == 0 {
		f.Msgs[0].Body = bytes.Repeat([]byte("l"), 255+r.Intn(3))
	}
	return f
}

func wildPid(r *rand.Rand, nodes int) int {
	if r.Intn(20) == 0 {
		return wildNumber(r, nodes)
	}
	return r.Intn(nodes)
}

func wildInc(r *rand.Rand) int {
	if r.Intn(20) == 0 {
		return wildNumber(r, 1)
	}
	return 1 + r.Intn(2)
}

// wildCall is one call that can be made on several.
func wildCall(r *rand.Rand, nodes int) func(actor) answer {
	switch k := r.Intn(20); {
	case k == 0:
		id := wildID(r)
		return func(a actor) answer { a.Begin(id); return answer{} }
	case k < 8:
		f := wildForward(r, nodes)
		return func(a actor) answer { return answer{e: a.Add(f)} }
	}
	q, inc, f := wildPid(r, nodes), wildInc(r), wildOne(r, nodes)
	return func(a actor) answer { return answer{e: a.Take(q, inc, f)} }
}

// wildAsk asks for all that is told.
func wildAsk(r *rand.Rand, nodes int) func(actor) answer {
	id := wildID(r)
	var who []api.Member
	for range r.Intn(4) {
		who = append(who, api.Member{Pid: wildPid(r, nodes), Inc: wildInc(r), Cid: r.Intn(3)})
	}
	return func(a actor) answer {
		l := answer{pids: a.Missing(id, who), msgs: a.Messages()}
		l.contents, l.e = a.Contents(id, who)
		return l
	}
}

// TestWildCalls holds the store against the model.
func TestWildCalls(t *testing.T) {
	r := rand.New(rand.NewSource(8))
	count := map[api.Errno]int{}
	told := 0
	for range 800 {
		nodes := 1 + r.Intn(4)
		s, m := made(t, nodes), newModel(nodes)
		for range 100 {
			do := wildCall(r, nodes)
			got, want := do(s), do(m)
			if !sameAnswer(got, want) {
				t.Fatalf("F9, F13: it answers %v, want %v", got, want)
			}
			count[got.e]++
			ask := wildAsk(r, nodes)
			got, want = ask(s), ask(m)
			if !sameAnswer(got, want) {
				t.Fatalf("F10, F11, F14: it tells %v, want %v", got, want)
			}
			told += len(got.contents)
			count[got.e]++
		}
	}
	for _, e := range []api.Errno{api.OK, api.ErrArg, api.ErrOld, api.ErrStale, api.ErrFork, api.ErrPrev, api.ErrFull, api.ErrMissing} {
		if count[e] < 100 {
			t.Errorf("the calls are too tame: error %d came %d times", e, count[e])
		}
	}
	if told < 1000 {
		t.Errorf("the calls are too tame: %d contents were told", told)
	}
}

package audit_test

import (
	"bytes"
	"slices"

	"quorate/api"
	"quorate/machine"
	"quorate/quorum"
)

// who is an incarnation.
type who struct{ pid, inc int }

func maker(m *api.Mark) who { return who{m.Node, m.Inc} }

// past is a trace up to a mark, in which no rule was broken. It keeps nothing: whatever a rule asks is looked up in all of it.
type past []*api.Mark

// judged is what the chapter's words say of a trace.
func judged(l []api.Mark, broken func(p past, m *api.Mark) int) api.Verdict {
	var p past
	for at := range l {
		if number := broken(p, &l[at]); number != 0 {
			return api.Verdict{Rule: number, At: at}
		}
		p = append(p, &l[at])
	}
	return api.Verdict{}
}

// pid is whether a pid is up, whether it is halted, and the last incarnation it had.
func (p past) pid(pid int) (up, halted bool, inc int) {
	for i := range p {
		if p[i].Node != pid {
			continue
		}
		switch p[i].Kind {
		case api.MarkBoot:
			up, halted, inc = true, false, p[i].Inc
		case api.MarkCrash:
			up = false
		case api.MarkHalt:
			halted = true
		}
	}
	return up, halted, inc
}

// incarnations are all that booted.
func (p past) incarnations() []who {
	var l []who
	for i := range p {
		if p[i].Kind == api.MarkBoot && !slices.Contains(l, maker(p[i])) {
			l = append(l, maker(p[i]))
		}
	}
	return l
}

// view is an incarnation's last install; nil: it has no view.
func (p past) view(w who) *api.Mark {
	for i := len(p) - 1; i >= 0; i-- {
		if maker(p[i]) == w && p[i].Kind == api.MarkInstall {
			return p[i]
		}
	}
	return nil
}

// viewID is the ID of an incarnation's view, and whether it has one.
func (p past) viewID(w who) (api.ViewID, bool) {
	if m := p.view(w); m != nil {
		return m.ID, true
	}
	return api.ViewID{}, false
}

func (p past) blocked(w who) bool {
	for i := len(p) - 1; i >= 0; i-- {
		if maker(p[i]) == w && (p[i].Kind == api.MarkInstall || p[i].Kind == api.MarkBlock) {
			return p[i].Kind == api.MarkBlock
		}
	}
	return true
}

// of are the marks of a kind that an incarnation made in the view with this ID.
func (p past) of(w who, id api.ViewID, kind int) []*api.Mark {
	var l []*api.Mark
	in := false
	for i := range p {
		if maker(p[i]) != w {
			continue
		}
		if p[i].Kind == api.MarkInstall {
			in = p[i].ID == id
		}
		if in && p[i].Kind == kind {
			l = append(l, p[i])
		}
	}
	return l
}

// installs are the places of the earlier installs with this ID.
func (p past) installs(id api.ViewID) []int {
	var l []int
	for i := range p {
		if p[i].Kind == api.MarkInstall && p[i].ID == id {
			l = append(l, i)
		}
	}
	return l
}

func (p past) hasInstalled(w who, id api.ViewID) bool { return len(p.of(w, id, api.MarkInstall)) > 0 }

// groupBroken is the lowest of the rules 1 to 11 that a mark breaks; 0: none.
func groupBroken(p past, m *api.Mark) int {
	if !p.rule1(m) {
		return 1
	}
	type rule struct {
		number int
		holds  func(m *api.Mark) bool
	}
	rules := map[int][]rule{
		api.MarkInstall: {{2, p.rule2}, {3, p.rule3}, {4, p.rule4}, {5, func(m *api.Mark) bool { return p.blocked(maker(m)) }}, {9, p.rule9}, {11, p.rule11}},
		api.MarkBlock:   {{5, func(m *api.Mark) bool { return !p.blocked(maker(m)) }}},
		api.MarkSend:    {{6, p.rule6}},
		api.MarkDeliver: {{7, p.rule7}, {8, p.rule8}},
		api.MarkSafe:    {{10, p.rule10}},
	}
	for _, r := range rules[m.Kind] {
		if !r.holds(m) {
			return r.number
		}
	}
	return 0
}

func (p past) rule1(m *api.Mark) bool {
	if m.At < 0 || len(p) > 0 && m.At < p[len(p)-1].At || m.Kind < 1 || m.Kind > 16 {
		return false
	}
	if m.Kind == api.MarkRound {
		ahead := 0
		for i := range p {
			if p[i].Kind == api.MarkRound {
				ahead = p[i].N
			}
		}
		return m.Node == 0 && m.Inc == 0 && m.N == ahead+1
	}
	if m.Node < 0 || m.Node > api.MaxNodes-1 {
		return false
	}
	up, halted, inc := p.pid(m.Node)
	switch m.Kind {
	case api.MarkBoot:
		return !up && m.Inc > inc
	case api.MarkCrash:
		return up && m.Inc == inc
	}
	return up && m.Inc == inc && !halted
}

func (p past) rule2(m *api.Mark) bool {
	if len(m.Members) < 1 || len(m.Members) > api.MaxNodes {
		return false
	}
	among := false
	for i, x := range m.Members {
		if x.Pid < 0 || x.Pid > api.MaxNodes-1 || i > 0 && x.Pid <= m.Members[i-1].Pid || x.Inc < 1 || x.Cid < 1 {
			return false
		}
		among = among || x.Pid == m.Node && x.Inc == m.Inc
	}
	id, _ := p.viewID(maker(m))
	return among && m.ID.Epoch > id.Epoch && m.ID.Lead == m.Members[0].Pid && m.ID.Inc == m.Members[0].Inc && m.ID.Cid == m.Members[0].Cid
}

func (p past) rule3(m *api.Mark) bool {
	for _, i := range p.installs(m.ID) {
		if !slices.Equal(p[i].Members, m.Members) || maker(p[i]) == maker(m) {
			return false
		}
	}
	return true
}

func (p past) rule4(m *api.Mark) bool {
	for i, pid := range m.Trans {
		if i > 0 && pid <= m.Trans[i-1] || !slices.ContainsFunc(m.Members, func(x api.Member) bool { return x.Pid == pid }) {
			return false
		}
	}
	v, is := p.viewID(maker(m))
	if !slices.Contains(m.Trans, m.Node) || !is && !slices.Equal(m.Trans, []int{m.Node}) {
		return false
	}
	for _, i := range p.installs(m.ID) {
		u, was := p[:i].viewID(maker(p[i]))
		same := is && was && u == v
		if slices.Contains(m.Trans, p[i].Node) != same || slices.Contains(p[i].Trans, m.Node) != same {
			return false
		}
	}
	return true
}

func (p past) rule6(m *api.Mark) bool {
	id, is := p.viewID(maker(m))
	return !p.blocked(maker(m)) && is && m.ID == id && m.Seq == len(p.of(maker(m), id, api.MarkSend))+1
}

func (p past) rule7(m *api.Mark) bool {
	v := p.view(maker(m))
	if v == nil || m.ID != v.ID {
		return false
	}
	k := slices.IndexFunc(v.Members, func(x api.Member) bool { return x.Pid == m.Sender })
	if k < 0 {
		return false
	}
	accepted := slices.ContainsFunc(p.of(who{m.Sender, v.Members[k].Inc}, m.ID, api.MarkSend), func(x *api.Mark) bool { return x.Seq == m.Seq && bytes.Equal(x.Body, m.Body) })
	count, last := 0, 0
	for _, x := range p.of(maker(m), m.ID, api.MarkDeliver) {
		last = x.Pos
		if x.Sender == m.Sender {
			count++
		}
	}
	return accepted && m.Seq == count+1 && m.Pos > last
}

func (p past) rule8(m *api.Mark) bool {
	k := len(p.of(maker(m), m.ID, api.MarkDeliver))
	for _, w := range p.incarnations() {
		if l := p.of(w, m.ID, api.MarkDeliver); w != maker(m) && len(l) > k {
			if x := l[k]; x.Pos != m.Pos || x.Sender != m.Sender || x.Seq != m.Seq || !bytes.Equal(x.Body, m.Body) {
				return false
			}
		}
	}
	return true
}

func (p past) rule9(m *api.Mark) bool {
	v, is := p.viewID(maker(m))
	if !is {
		return true
	}
	for _, i := range p.installs(m.ID) {
		u, was := p[:i].viewID(maker(p[i]))
		if was && u == v && len(p.of(maker(p[i]), v, api.MarkDeliver)) != len(p.of(maker(m), v, api.MarkDeliver)) {
			return false
		}
	}
	return true
}

// upto is how many messages an incarnation delivered in a view up to a position.
func (p past) upto(w who, id api.ViewID, pos int) int {
	n := 0
	for _, x := range p.of(w, id, api.MarkDeliver) {
		if x.Pos <= pos {
			n++
		}
	}
	return n
}

func (p past) rule10(m *api.Mark) bool {
	v := p.view(maker(m))
	if v == nil || m.ID != v.ID || p.blocked(maker(m)) {
		return false
	}
	safe := 0
	for _, x := range p.of(maker(m), m.ID, api.MarkSafe) {
		safe = x.Pos
	}
	if m.Pos <= safe {
		return false
	}
	for _, x := range v.Members {
		w := who{x.Pid, x.Inc}
		if !p.hasInstalled(w, m.ID) || p.upto(w, m.ID, m.Pos) != p.upto(maker(m), m.ID, m.Pos) {
			return false
		}
	}
	return true
}

func (p past) rule11(m *api.Mark) bool {
	id, is := p.viewID(maker(m))
	if !is {
		return m.N == 0
	}
	lost := len(p.of(maker(m), id, api.MarkSend))
	for _, x := range p.of(maker(m), id, api.MarkDeliver) {
		if x.Sender == m.Node {
			lost--
		}
	}
	return m.N == lost
}

// life are the marks of an incarnation from its last boot on.
func (p past) life(w who) past {
	var l past
	for i := range p {
		if maker(p[i]) != w {
			continue
		}
		if p[i].Kind == api.MarkBoot {
			l = nil
		}
		l = append(l, p[i])
	}
	return l
}

// last is the place of the last mark of a kind; below 0: there is none.
func (p past) last(kind int) int {
	for i := len(p) - 1; i >= 0; i-- {
		if p[i].Kind == kind {
			return i
		}
	}
	return -1
}

// pending is an incarnation's pending command.
func (l past) pending() (api.Command, bool) {
	at := l.last(api.MarkDo)
	if at < 0 || l.last(api.MarkReply) > at {
		return api.Command{}, false
	}
	return l[at].Cmd, true
}

// first is the first MarkApply of an index.
func (p past) first(index int) *api.Mark {
	for i := range p {
		if p[i].Kind == api.MarkApply && p[i].N == index {
			return p[i]
		}
	}
	return nil
}

// history are the first marks of the indexes 1, 2, 3, ..
func (p past) history() []*api.Mark {
	var l []*api.Mark
	for m := p.first(1); m != nil; m = p.first(len(l) + 1) {
		l = append(l, m)
	}
	return l
}

// serviceBroken is the lowest of the rules 21 to 29 that a mark breaks; 0: none.
func serviceBroken(votes []int) func(p past, m *api.Mark) int {
	return func(p past, m *api.Mark) int {
		l := p.life(maker(m))
		adopt, install := l.last(api.MarkAdopt), l.last(api.MarkInstall)
		switch m.Kind {
		case api.MarkAdopt:
			return adoptBroken(votes, p, l, m)
		case api.MarkDo:
			dos := 0
			for i := range l {
				if l[i].Kind == api.MarkDo {
					dos++
				}
			}
			_, busy := l.pending()
			if adopt < 0 || adopt < install || busy || machine.CheckCommand(m.Cmd) != api.OK || m.Cmd.Client != m.Node || m.Cmd.Inc != m.Inc || m.Cmd.Req != dos+1 {
				return 22
			}
		case api.MarkApply:
			return applyBroken(p, l, m)
		case api.MarkReply:
			c, busy := l.pending()
			if !busy || c != m.Cmd {
				return 28
			}
			for i := range p {
				if p[i].Kind == api.MarkApply && p[i].Cmd == m.Cmd && p[i].Result == m.Result {
					if p[i].N > len(p.history()) {
						return 29
					}
					return 0
				}
			}
			return 28
		}
		return 0
	}
}

func adoptBroken(votes []int, p, l past, m *api.Mark) int {
	adopt, install := l.last(api.MarkAdopt), l.last(api.MarkInstall)
	if install < 0 || m.ID != l[install].ID || adopt > install || m.Pos < 0 || m.Pos > m.N {
		return 21
	}
	pids := []int{}
	for _, x := range l[install].Members {
		pids = append(pids, x.Pid)
	}
	if ok, e := quorum.Quorate(votes, pids); e != api.OK || !ok {
		return 21
	}
	for i := range p {
		if p[i].Kind != api.MarkApply {
			continue
		}
		life := p[:i].life(maker(p[i]))
		if in := life.last(api.MarkInstall); in >= 0 && life[in].ID.Epoch < m.ID.Epoch && m.N < p[i].N {
			return 26
		}
	}
	return 0
}

func applyBroken(p, l past, m *api.Mark) int {
	adopt, apply := l.last(api.MarkAdopt), l.last(api.MarkApply)
	if m.N < 1 || m.N > api.MaxCount || apply >= 0 && m.N <= l[apply].N || apply >= 0 && adopt < apply && m.N != l[apply].N+1 {
		return 23
	}
	for i := range p {
		if p[i].Kind == api.MarkApply && p[i].N == m.N && (p[i].Cmd != m.Cmd || p[i].Result != m.Result) {
			return 24
		}
	}
	if p.first(m.N) != nil {
		return 0
	}
	asked := false
	for i := range p {
		asked = asked || p[i].Kind == api.MarkDo && p[i].Cmd == m.Cmd
		if c := p[i].Cmd; p[i].Kind == api.MarkApply && p[i].N != m.N && c.Client == m.Cmd.Client && c.Inc == m.Cmd.Inc && c.Req == m.Cmd.Req {
			return 25
		}
	}
	if !asked {
		return 25
	}
	known, does := len(p.history()), machine.New()
	for i, x := range append(slices.Clone(p), m).history() {
		if r := does.Apply(x.Cmd); i >= known && r != x.Result {
			return 27
		}
	}
	return 0
}

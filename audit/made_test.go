package audit_test

import (
	"math/rand"
	"slices"

	"quorate/api"
	"quorate/machine"
)

// Marks that are drawn one by one, each behind a trace that breaks no rule: mostly such as may stand there, often nearly so.

// someGroupMark: of four nodes.
func someGroupMark(r *rand.Rand, p past) api.Mark {
	w := who{pid: r.Intn(4)}
	up, halted, inc := p.pid(w.pid)
	w.inc = inc
	kinds := []int{api.MarkSend, api.MarkSend, api.MarkDeliver, api.MarkDeliver, api.MarkDeliver, api.MarkDeliver, api.MarkSafe, api.MarkBlock, api.MarkInstall, api.MarkInstall, api.MarkInstall, api.MarkRound, 1 + r.Intn(16)}
	m := api.Mark{Kind: kinds[r.Intn(len(kinds))], Node: w.pid, Inc: w.inc}
	if m.Kind == api.MarkInstall && !p.blocked(w) && r.Intn(10) > 0 {
		m.Kind = []int{api.MarkSend, api.MarkDeliver, api.MarkDeliver}[r.Intn(3)]
	}
	if m.Kind == api.MarkBlock && r.Intn(3) > 0 { // so that there is something in a view
		m.Kind = api.MarkDeliver
	}
	if !up && r.Intn(10) > 0 {
		m.Kind, m.Inc = api.MarkBoot, inc+1+r.Intn(2)
	}
	if halted && r.Intn(10) > 0 || up && r.Intn(60) == 0 {
		m.Kind = api.MarkCrash
	}
	if n := len(p); n > 0 {
		m.At = p[n-1].At + r.Intn(2)
	}
	switch m.Kind {
	case api.MarkRound:
		m = api.Mark{At: m.At, Kind: m.Kind, N: 1}
		if at := p.last(api.MarkRound); at >= 0 {
			m.N = p[at].N + 1
		}
	case api.MarkHalt:
		m.Kind = []int{api.MarkHalt, api.MarkLeave, api.MarkRefuse, api.MarkFull}[r.Intn(4)]
	case api.MarkSend, api.MarkSafe, api.MarkBlock, api.MarkDeliver:
		m.ID, _ = p.viewID(w)
		fillMessage(r, p, &m)
	case api.MarkInstall:
		fillInstall(r, p, &m)
	}
	return m
}

// fillMessage fills in what is right of a message's marks, as far as there is anything.
func fillMessage(r *rand.Rand, p past, m *api.Mark) {
	w := maker(m)
	switch m.Kind {
	case api.MarkSend:
		m.Seq, m.Body = len(p.of(w, m.ID, api.MarkSend))+1, []byte([]string{"", "x", "yy"}[r.Intn(3)])
	case api.MarkSafe:
		m.Pos = 1 + r.Intn(3)
		if l := p.of(w, m.ID, api.MarkSafe); len(l) > 0 {
			m.Pos += l[len(l)-1].Pos
		}
	case api.MarkDeliver:
		own := p.of(w, m.ID, api.MarkDeliver)
		for _, o := range p.incarnations() {
			if l := p.of(o, m.ID, api.MarkDeliver); len(l) > len(own) && r.Intn(8) > 0 {
				m.Pos, m.Sender, m.Seq, m.Body = l[len(own)].Pos, l[len(own)].Sender, l[len(own)].Seq, l[len(own)].Body
				return
			}
		}
		v := p.view(w)
		if v == nil {
			return
		}
		for range 3 { // perhaps one of them has accepted a next one
			if fillDeliver(r, p, v.Members[r.Intn(len(v.Members))], own, m) {
				return
			}
		}
	}
}

// fillDeliver fills in a member's next message: whether there is one.
func fillDeliver(r *rand.Rand, p past, from api.Member, own []*api.Mark, m *api.Mark) bool {
	m.Sender, m.Seq, m.Pos = from.Pid, 1, 1+r.Intn(2)
	for _, x := range own {
		if x.Sender == m.Sender {
			m.Seq++
		}
		m.Pos = max(m.Pos, x.Pos+1+r.Intn(2))
	}
	l := p.of(who{from.Pid, from.Inc}, m.ID, api.MarkSend)
	if len(l) < m.Seq {
		return false
	}
	m.Body = l[m.Seq-1].Body
	return true
}

// fillInstall fills in a view that there is, or a new one.
func fillInstall(r *rand.Rand, p past, m *api.Mark) {
	id, is := p.viewID(maker(m))
	m.ID.Epoch = id.Epoch + 1 + r.Intn(2)
	for i := range p {
		if x := p[i]; x.Kind == api.MarkInstall && x.ID.Epoch > id.Epoch && slices.ContainsFunc(x.Members, func(y api.Member) bool { return y.Pid == m.Node && y.Inc == m.Inc }) && r.Intn(4) > 0 {
			m.ID, m.Members = x.ID, slices.Clone(x.Members)
			break
		}
	}
	for pid := 0; len(m.Members) == 0 || pid < 4 && m.ID.Lead == 0 && m.ID.Cid == 0; pid++ {
		if _, _, inc := p.pid(pid); pid == m.Node || r.Intn(3) > 0 && inc > 0 {
			m.Members = append(m.Members, api.Member{Pid: pid, Inc: inc, Cid: 1 + r.Intn(2)})
		}
	}
	*m = leading(*m)
	for _, x := range m.Members {
		other, has := p.viewID(who{x.Pid, x.Inc})
		together := is && has && other == id // not there yet
		for _, i := range p.installs(m.ID) {
			if p[i].Node == x.Pid {
				u, was := p[:i].viewID(maker(p[i]))
				together = is && was && u == id
			}
		}
		if x.Pid == m.Node || together && r.Intn(12) > 0 {
			m.Trans = append(m.Trans, x.Pid)
		}
	}
	m.N = len(p.of(maker(m), id, api.MarkSend))
	for _, x := range p.of(maker(m), id, api.MarkDeliver) {
		if x.Sender == m.Node {
			m.N--
		}
	}
}

// someServiceMark: of two incarnations of three nodes.
func someServiceMark(r *rand.Rand, p past) api.Mark {
	kinds := []int{api.MarkInstall, api.MarkAdopt, api.MarkAdopt, api.MarkDo, api.MarkDo, api.MarkApply, api.MarkApply, api.MarkApply, api.MarkReply, api.MarkReply, 1 + r.Intn(16)}
	m := api.Mark{Kind: kinds[r.Intn(len(kinds))], Node: r.Intn(3), Inc: 1 + r.Intn(2)}
	l := p.life(maker(&m))
	if at := l.last(api.MarkInstall); at >= 0 {
		m.ID = l[at].ID
	}
	if m.Kind == api.MarkBoot && r.Intn(3) > 0 {
		m.Kind = api.MarkCrash
	}
	switch m.Kind {
	case api.MarkInstall:
		m.ID = api.ViewID{Epoch: r.Intn(6), Lead: r.Intn(2)}
		for pid := range 3 {
			if r.Intn(3) > 0 {
				m.Members = append(m.Members, api.Member{Pid: pid})
			}
		}
	case api.MarkAdopt:
		for i := range p {
			if p[i].Kind == api.MarkApply && r.Intn(12) > 0 {
				m.N = max(m.N, p[i].N)
			}
		}
		m.N += r.Intn(2)
		m.Pos = r.Intn(m.N + 1)
	case api.MarkDo:
		m.Cmd = someCommand(r)
		m.Cmd.Client, m.Cmd.Inc, m.Cmd.Req = m.Node, m.Inc, 1
		for i := range l {
			if l[i].Kind == api.MarkDo {
				m.Cmd.Req++
			}
		}
	case api.MarkApply:
		fillApply(r, p, l, &m)
	case api.MarkReply:
		m.Cmd, _ = l.pending()
		for i := range p {
			if p[i].Kind == api.MarkApply && p[i].Cmd == m.Cmd {
				m.Result = p[i].Result
			}
		}
	}
	return m
}

// fillApply fills in an entry that there is, or one that joins.
func fillApply(r *rand.Rand, p, l past, m *api.Mark) {
	history := p.history()
	m.N = 1 + r.Intn(len(history)+2)
	if at := l.last(api.MarkApply); at >= 0 && l.last(api.MarkAdopt) < at {
		m.N = l[at].N + 1
	}
	if x := p.first(m.N); x != nil {
		m.Cmd, m.Result = x.Cmd, x.Result
		return
	}
	for i := range p {
		done := slices.ContainsFunc(p, func(x *api.Mark) bool { return x.Kind == api.MarkApply && x.Cmd == p[i].Cmd })
		if p[i].Kind == api.MarkDo && (!done || r.Intn(20) == 0) {
			m.Cmd = p[i].Cmd
			if r.Intn(3) == 0 {
				break
			}
		}
	}
	does := machine.New()
	for _, x := range history {
		does.Apply(x.Cmd)
	}
	m.Result = does.Apply(m.Cmd)
}

// numbersOf are those of a mark that its kind gives a meaning.
func numbersOf(m *api.Mark) []*int {
	l := []*int{&m.At, &m.Kind, &m.Node, &m.Inc}
	id := []*int{&m.ID.Epoch, &m.ID.Lead, &m.ID.Inc, &m.ID.Cid}
	command := []*int{&m.Cmd.Client, &m.Cmd.Inc, &m.Cmd.Req, &m.Cmd.Op}
	result := []*int{&m.Result.Code, &m.Result.N}
	switch m.Kind {
	case api.MarkRound:
		return append(l, &m.N)
	case api.MarkSend:
		return slices.Concat(l, id, []*int{&m.Seq})
	case api.MarkDeliver:
		return slices.Concat(l, id, []*int{&m.Sender, &m.Seq, &m.Pos, &m.Pos, &m.Pos, &m.Pos})
	case api.MarkSafe:
		return slices.Concat(l, id, []*int{&m.Pos, &m.Pos})
	case api.MarkAdopt:
		return slices.Concat(l, id, []*int{&m.Pos, &m.N, &m.N, &m.N, &m.N})
	case api.MarkDo:
		return append(l, command...)
	case api.MarkApply:
		return slices.Concat(l, command, result, result, []*int{&m.N, &m.N})
	case api.MarkReply:
		return slices.Concat(l, command, result, result)
	case api.MarkInstall:
		l = slices.Concat(l, id, []*int{&m.N, &m.N})
		for i := range m.Members {
			l = append(l, &m.Members[i].Pid, &m.Members[i].Inc, &m.Members[i].Cid)
		}
		for i := range m.Trans {
			l = append(l, &m.Trans[i], &m.N)
		}
	}
	return l
}

// nudged is a mark with one number or text or list another one.
func nudged(r *rand.Rand, m api.Mark) api.Mark {
	m = with(m, func(*api.Mark) {})
	l := numbersOf(&m)
	number := l[r.Intn(len(l))]
	switch r.Intn(15) {
	case 0:
		*number = slices.Concat(far(), []int{0, 1, 2, 15, 16, api.MaxCount})[r.Intn(16)]
	case 1, 2, 3, 4, 5:
		*number++
	case 6, 7, 8:
		*number--
	case 9:
		*number = r.Intn(4)
	case 10:
		m.Body = append(m.Body, 'x')
	case 11:
		m.Members = m.Members[:len(m.Members)/2]
	case 12:
		m.Trans = append(m.Trans, r.Intn(5))
	case 13:
		text := []*string{&m.Cmd.Key, &m.Cmd.Val, &m.Cmd.Old, &m.Result.Val}[r.Intn(4)]
		*text += "b"
	case 14:
		m.Trans = m.Trans[:len(m.Trans)/2]
	}
	return m
}

// sometimesNudged: one of three.
func sometimesNudged(r *rand.Rand, m api.Mark) api.Mark {
	if r.Intn(3) == 0 {
		return nudged(r, m)
	}
	return m
}

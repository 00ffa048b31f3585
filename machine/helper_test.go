package machine_test

import (
	"bytes"
	"encoding/binary"
	"fmt"
	"hash/crc32"
	"math"
	"math/rand"
	"regexp"
	"slices"
	"strconv"
	"strings"
	"testing"

	"quorate/api"
	"quorate/machine"
)

// far are numbers that are no client, incarnation, request or operation.
func far() []int {
	return []int{math.MinInt, math.MinInt + 1, -api.MaxCount, -1 << 32, -1<<32 + 1, -256, -255, -10, -2, -1, api.MaxCount + 1, math.MaxInt - 1, math.MaxInt}
}

// cmd is a command of client.inc.req: what it asks for, Val and Old as far as they are given.
func cmd(client, inc, req, op int, key string, texts ...string) api.Command {
	texts = append(texts, "", "")
	return api.Command{Client: client, Inc: inc, Req: req, Op: op, Key: key, Val: texts[0], Old: texts[1]}
}

func result(code int, val string, n int) api.Result { return api.Result{Code: code, Val: val, N: n} }

// numberText: section 13.1, in its words.
var numberText = regexp.MustCompile(`\A(0|-?[1-9][0-9]*)\z`)

func isNumberText(s string) bool { return len(s) <= 8 && numberText.MatchString(s) }

// worth is the number of a number text.
func worth(s string) int {
	n, _ := strconv.Atoi(s)
	return n
}

// isCommand: section 13.1, its table.
func isCommand(c api.Command) bool {
	if c.Client < 0 || c.Client > 15 || c.Inc < 1 || c.Inc > 1<<62 || c.Req < 1 || c.Req > 1<<62 {
		return false
	}
	key, val, old := len(c.Key) >= 1 && len(c.Key) <= 8, c.Val == "", c.Old == ""
	switch c.Op {
	case 1:
		val = len(c.Val) <= 8
	case 3:
		val, old = len(c.Val) <= 8, len(c.Old) <= 8
	case 5:
		val = isNumberText(c.Val)
	case 8:
		val = isNumberText(c.Val) && worth(c.Val) > 0
	case 9:
		key, val = c.Key == "", isNumberText(c.Val) && worth(c.Val) >= 0 && worth(c.Val) < 16
	case 2, 4, 6, 7:
	default:
		return false
	}
	return key && val && old
}

// counts writes numbers as chapter 1 says.
func counts(b []byte, l ...int) []byte {
	for _, n := range l {
		b = binary.AppendUvarint(b, uint64(n))
	}
	return b
}

// text writes a text behind its length.
func text(b []byte, s string) []byte { return append(counts(b, len(s)), s...) }

// encoded is a command's text, also where it is not valid.
func encoded(c api.Command) []byte {
	return text(text(text(counts(nil, c.Client, c.Inc, c.Req, c.Op), c.Key), c.Val), c.Old)
}

// summed puts the sum behind bytes.
func summed(b []byte) []byte {
	return binary.LittleEndian.AppendUint32(bytes.Clone(b), crc32.ChecksumIEEE(b))
}

// model is a machine in the chapter's words: lists that are looked through.
type model struct {
	pairs    []api.Pair
	locks    []held
	tokens   int
	sessions map[int]api.Session
}

type held struct {
	name          string
	client, token int
	queue         []int
}

func newModel() *model { return &model{sessions: map[int]api.Session{}} }

// sort puts all lists into their rising order.
func (m *model) sort() {
	slices.SortFunc(m.pairs, func(a, b api.Pair) int { return bytes.Compare([]byte(a.Key), []byte(b.Key)) })
	slices.SortFunc(m.locks, func(a, b held) int { return bytes.Compare([]byte(a.name), []byte(b.name)) })
}

func (m *model) pair(key string) int {
	return slices.IndexFunc(m.pairs, func(p api.Pair) bool { return p.Key == key })
}

func (m *model) lock(name string) int {
	return slices.IndexFunc(m.locks, func(l held) bool { return l.name == name })
}

// passOn: section 13.2.
func (m *model) passOn(at int) int {
	l := &m.locks[at]
	if len(l.queue) == 0 || m.tokens == 99999999 {
		m.locks = slices.Delete(m.locks, at, at+1)
		return 0
	}
	m.tokens++
	l.client, l.queue, l.token = l.queue[0], slices.Clone(l.queue[1:]), m.tokens
	return m.tokens
}

// gone: a client leaves all queues, and what it holds is passed on by rising name.
func (m *model) gone(client int) int {
	m.sort()
	var mine []string
	for i := range m.locks {
		l := &m.locks[i]
		l.queue = slices.DeleteFunc(slices.Clone(l.queue), func(p int) bool { return p == client })
		if l.client == client {
			mine = append(mine, l.name)
		}
	}
	for _, name := range mine {
		m.passOn(m.lock(name))
	}
	return len(mine)
}

// apply: M4.
func (m *model) apply(c api.Command) api.Result {
	if !isCommand(c) {
		return result(api.ResBad, "", 0)
	}
	s, known := m.sessions[c.Client]
	if known && (s.Inc > c.Inc || s.Inc == c.Inc && s.Req > c.Req) {
		return result(api.ResStale, "", 0)
	}
	if known && s.Inc == c.Inc && s.Req == c.Req {
		return s.Last
	}
	if known && s.Inc < c.Inc {
		m.gone(c.Client)
	}
	var r api.Result
	if c.Op <= 5 {
		r = m.onKeys(c)
	} else {
		r = m.onLocks(c)
	}
	m.sessions[c.Client] = api.Session{Inc: c.Inc, Req: c.Req, Last: r}
	m.sort()
	return r
}

// onKeys: M5.
func (m *model) onKeys(c api.Command) api.Result {
	at := m.pair(c.Key)
	if at < 0 {
		switch {
		case c.Op != api.OpSet && c.Op != api.OpAdd:
			return result(api.ResNone, "", 0)
		case len(m.pairs) == 16:
			return result(api.ResFull, "", 0)
		}
		m.pairs = append(m.pairs, api.Pair{Key: c.Key, Val: c.Val})
		if c.Op == api.OpAdd {
			return result(api.ResDone, c.Val, 0)
		}
		return result(api.ResDone, "", 0)
	}
	had := m.pairs[at].Val
	sum := worth(had) + worth(c.Val)
	switch {
	case c.Op == api.OpGet:
		return result(api.ResDone, had, 1)
	case c.Op == api.OpDel:
		m.pairs = slices.Delete(m.pairs, at, at+1)
		return result(api.ResDone, had, 1)
	case c.Op == api.OpCas && had != c.Old:
		return result(api.ResDiffer, had, 1)
	case c.Op == api.OpAdd && !isNumberText(had):
		return result(api.ResNumber, had, 1)
	case c.Op == api.OpAdd && (sum < -9999999 || sum > 99999999):
		return result(api.ResOver, had, 1)
	case c.Op == api.OpAdd:
		m.pairs[at].Val = fmt.Sprint(sum)
		return result(api.ResDone, fmt.Sprint(sum), 1)
	}
	m.pairs[at].Val = c.Val
	return result(api.ResDone, had, 1)
}

// onLocks: M6.
func (m *model) onLocks(c api.Command) api.Result {
	if c.Op == api.OpEnd {
		if _, known := m.sessions[worth(c.Val)]; !known {
			return result(api.ResNone, "", 0)
		}
		return result(api.ResDone, "", m.gone(worth(c.Val)))
	}
	at := m.lock(c.Key)
	if at < 0 {
		switch {
		case c.Op != api.OpLock:
			return result(api.ResNone, "", 0)
		case len(m.locks) == 8:
			return result(api.ResFull, "", 0)
		case m.tokens == 99999999:
			return result(api.ResSpent, "", 0)
		}
		m.tokens++
		m.locks = append(m.locks, held{name: c.Key, client: c.Client, token: m.tokens})
		return result(api.ResDone, "", m.tokens)
	}
	l := &m.locks[at]
	place := slices.Index(l.queue, c.Client)
	switch {
	case c.Op == api.OpFence && worth(c.Val) == l.token:
		return result(api.ResDone, "", l.token)
	case c.Op == api.OpFence:
		return result(api.ResStale, "", l.token)
	case c.Op == api.OpLock && l.client == c.Client:
		return result(api.ResDone, "", l.token)
	case c.Op == api.OpLock && place < 0:
		l.queue = append(slices.Clone(l.queue), c.Client)
		return result(api.ResQueued, "", len(l.queue))
	case c.Op == api.OpLock:
		return result(api.ResQueued, "", place+1)
	case l.client == c.Client:
		return result(api.ResDone, "", m.passOn(at))
	case place >= 0:
		l.queue = slices.Delete(slices.Clone(l.queue), place, place+1)
		return result(api.ResLeft, "", 0)
	}
	return result(api.ResNone, "", 0)
}

// clients are those with a session, rising.
func (m *model) clients() []int {
	var l []int
	for p := range m.sessions {
		l = append(l, p)
	}
	slices.Sort(l)
	return l
}

// body is a state's text up to its sum (M8), its lists as they stand: also where the state is not valid.
func (m *model) body() []byte {
	b := counts([]byte{0x51, 0x53, 1}, m.tokens, len(m.pairs))
	for _, p := range m.pairs {
		b = text(text(b, p.Key), p.Val)
	}
	b = counts(b, len(m.locks))
	for _, l := range m.locks {
		b = counts(text(b, l.name), l.client, l.token, len(l.queue))
		b = counts(b, l.queue...)
	}
	b = counts(b, len(m.sessions))
	for _, p := range m.clients() {
		s := m.sessions[p]
		b = counts(text(counts(b, p, s.Inc, s.Req, s.Last.Code), s.Last.Val), s.Last.N)
	}
	return b
}

func (m *model) snapshot() []byte { return summed(m.body()) }

// isState: M9, a state's conditions, but for the order in which its lists stand.
func (m *model) isState() bool {
	ok := len(m.pairs) <= 16 && len(m.locks) <= 8 && m.tokens <= 99999999
	knows := func(p int) bool { _, known := m.sessions[p]; return known }
	for i, p := range m.pairs {
		ok = ok && len(p.Key) >= 1 && len(p.Key) <= 8 && len(p.Val) <= 8 && m.pair(p.Key) == i
	}
	for i, l := range m.locks {
		ok = ok && len(l.name) >= 1 && len(l.name) <= 8 && m.lock(l.name) == i && l.token >= 1 && l.token <= m.tokens && knows(l.client)
		for _, o := range m.locks[:i] {
			ok = ok && o.token != l.token
		}
		for k, p := range l.queue {
			ok = ok && knows(p) && p != l.client && slices.Index(l.queue, p) == k
		}
	}
	for p, s := range m.sessions {
		ok = ok && p <= 15 && s.Inc >= 1 && s.Inc <= 1<<62 && s.Req >= 1 && s.Req <= 1<<62 &&
			s.Last.Code >= 1 && s.Last.Code <= 11 && s.Last.Code != 10 && len(s.Last.Val) <= 8 && s.Last.N <= 99999999
	}
	return ok
}

// scanner takes counts and texts off bytes, whatever they are.
type scanner struct {
	left []byte
	bad  bool
}

func (s *scanner) count() int {
	n, size := binary.Uvarint(s.left)
	if size <= 0 || n > 1<<62 {
		s.bad, s.left = true, nil
		return 0
	}
	s.left = s.left[size:]
	return int(n)
}

func (s *scanner) text() string {
	n := s.count()
	if n > len(s.left) {
		s.bad, s.left = true, nil
		return ""
	}
	t := string(s.left[:n])
	s.left = s.left[n:]
	return t
}

// decoded is the command whose text b is: what is written for the command that is read must be b again.
func decoded(b []byte) (api.Command, bool) {
	s := scanner{left: b}
	c := api.Command{Client: s.count(), Inc: s.count(), Req: s.count(), Op: s.count()}
	c.Key, c.Val, c.Old = s.text(), s.text(), s.text()
	if s.bad || !isCommand(c) || !bytes.Equal(encoded(c), b) {
		return api.Command{}, false
	}
	return c, true
}

// restored is the valid state whose text b is: what is written for the state that is read must be b again.
func restored(b []byte) (*model, bool) {
	if len(b) < 7 {
		return nil, false
	}
	m := newModel()
	s := scanner{left: b[3 : len(b)-4]}
	m.tokens = s.count()
	for range min(s.count(), len(b)) {
		m.pairs = append(m.pairs, api.Pair{Key: s.text(), Val: s.text()})
	}
	for range min(s.count(), len(b)) {
		l := held{name: s.text(), client: s.count(), token: s.count()}
		for range min(s.count(), len(b)) {
			l.queue = append(l.queue, s.count())
		}
		m.locks = append(m.locks, l)
	}
	for range min(s.count(), len(b)) {
		p := s.count()
		x := api.Session{Inc: s.count(), Req: s.count()}
		x.Last = api.Result{Code: s.count(), Val: s.text(), N: s.count()}
		m.sessions[p] = x
	}
	if s.bad || !m.isState() {
		return nil, false
	}
	m.sort()
	return m, bytes.Equal(m.snapshot(), b)
}

// names are texts for keys and locks: such as begin with one another, and bytes of all kinds.
func names() []string {
	return []string{"a", "b", "ab", "a\x00", "\x00", "\xff", "\x80", "Z", "é", "12345678", "1234567", "\xff\xff\xff\xff\xff\xff\xff\xff", "k", "l", "m", "n", "o", "p", "q", "r", "aa", "-1", " "}
}

// values are texts of keys' values, numbers among them.
func values() []string {
	return []string{"", "x", "y", "0", "1", "-1", "5", "-7", "99999999", "99999998", "-9999999", "-9999998", "50000000", "07", "-0", "+1", "-", "12345678", "\x00\xff", "1e3", "0x1", "1_0", " 1", "١"}
}

func pick[T any](r *rand.Rand, l []T) T { return l[r.Intn(len(l))] }

// drawn is a valid command of some client, by what its session is.
func drawn(r *rand.Rand, m *model) api.Command {
	c := api.Command{Client: r.Intn(4), Op: 1 + r.Intn(9)}
	if r.Intn(8) == 0 {
		c.Client = r.Intn(16)
	}
	s := m.sessions[c.Client]
	c.Inc, c.Req = max(s.Inc, 1), s.Req+1
	switch r.Intn(16) {
	case 0:
		c.Inc, c.Req = c.Inc+1, 1
	case 1:
		c.Inc, c.Req = max(c.Inc-1, 1), 1+r.Intn(9)
	case 2:
		c.Req = max(s.Req-r.Intn(2), 1)
	case 3:
		c.Req += r.Intn(3)
	}
	c.Key = pick(r, names())
	if c.Op > 5 {
		c.Key = pick(r, names()[:10])
	}
	switch c.Op {
	case api.OpSet:
		c.Val = pick(r, values())
	case api.OpCas:
		c.Val, c.Old = pick(r, values()), pick(r, values())
		if at := m.pair(c.Key); at >= 0 && r.Intn(2) == 0 {
			c.Old = m.pairs[at].Val
		}
	case api.OpAdd:
		c.Val = pick(r, slices.DeleteFunc(values(), func(s string) bool { return !isNumberText(s) }))
	case api.OpFence:
		c.Val = fmt.Sprint(max(1, m.tokens-r.Intn(4)))
	case api.OpEnd:
		c.Key, c.Val = "", fmt.Sprint(r.Intn(5))
		if r.Intn(2) == 0 {
			c.Op, c.Key, c.Val = api.OpLock, pick(r, names()[:10]), ""
		}
	}
	return c
}

// spoilt is a command with something else in one place, mostly no command.
func spoilt(r *rand.Rand, c api.Command) api.Command {
	long := []string{"", "123456789", "x", strings.Repeat("1", 300), "07", "-1", "0", "16"}
	switch r.Intn(7) {
	case 0:
		c.Client = pick(r, append(far(), 16, 17, 256))
	case 1:
		c.Inc = pick(r, append(far(), 0))
	case 2:
		c.Req = pick(r, append(far(), 0))
	case 3:
		c.Op = pick(r, append(far(), 0, 10, 11, 257))
	case 4:
		c.Key = pick(r, long)
	case 5:
		c.Val = pick(r, long)
	case 6:
		c.Old = pick(r, long)
	}
	return c
}

// wantState looks whether a machine tells what the model does: M7 and M8.
func wantState(t *testing.T, m *machine.Machine, w *model) {
	t.Helper()
	w.sort()
	if got := m.Pairs(); !slices.Equal(got, w.pairs) {
		t.Fatalf("M7: Pairs %q, want %q", got, w.pairs)
	}
	for _, key := range append(names(), "", "none", "123456789") {
		want := api.Pair{}
		at := w.pair(key)
		if at >= 0 {
			want = w.pairs[at]
		}
		if got, ok := m.Get(key); got != want.Val || ok != (at >= 0) {
			t.Fatalf("M7: Get(%q) = %q, %v, want %q, %v", key, got, ok, want.Val, at >= 0)
		}
		wantLock(t, m, w, key)
	}
	var locks []string
	for _, l := range w.locks {
		locks = append(locks, l.name)
	}
	if got := m.Locks(); !slices.Equal(got, locks) {
		t.Fatalf("M7: Locks %q, want %q", got, locks)
	}
	for _, p := range append(far(), 0, 1, 2, 3, 4, 5, 6, 7, 8, 9, 10, 11, 12, 13, 14, 15, 16, 17, 256, 1<<32) {
		want, known := w.sessions[p]
		if got, ok := m.Session(p); got != want || ok != known {
			t.Fatalf("M7: Session(%d) = %#v, %v, want %#v, %v", p, got, ok, want, known)
		}
	}
	wantSnapshot(t, m, w)
}

// wantLock looks at one lock.
func wantLock(t *testing.T, m *machine.Machine, w *model, name string) {
	t.Helper()
	var holder api.Holder
	var waiting []api.Waiter
	at := w.lock(name)
	if at >= 0 {
		l := w.locks[at]
		holder = api.Holder{Client: l.client, Inc: w.sessions[l.client].Inc, Token: l.token}
		for _, p := range l.queue {
			waiting = append(waiting, api.Waiter{Client: p, Inc: w.sessions[p].Inc})
		}
	}
	if got, ok := m.Holder(name); got != holder || ok != (at >= 0) {
		t.Fatalf("M7: Holder(%q) = %+v, %v, want %+v, %v", name, got, ok, holder, at >= 0)
	}
	if got := m.Waiting(name); !slices.Equal(got, waiting) {
		t.Fatalf("M7: Waiting(%q) = %+v, want %+v", name, got, waiting)
	}
}

func wantSnapshot(t *testing.T, m *machine.Machine, w *model) {
	t.Helper()
	if got, want := m.Snapshot(), w.snapshot(); !bytes.Equal(got, want) {
		t.Fatalf("M8: Snapshot % x, want % x", got, want)
	}
}

// both applies a command to a machine and to its model, and looks whether they answer and stand alike.
func both(t *testing.T, m *machine.Machine, w *model, c api.Command) api.Result {
	t.Helper()
	want := w.apply(c)
	if got := m.Apply(c); got != want {
		t.Fatalf("%s: %#v answers %#v, want %#v", promiseOf(c), c, got, want)
	}
	wantSnapshot(t, m, w)
	return want
}

// promiseOf is the promise that says what a command does.
func promiseOf(c api.Command) string {
	switch {
	case !isCommand(c):
		return "M4"
	case c.Op <= 5:
		return "M4, M5"
	}
	return "M4, M6"
}

// want applies a command that must have this answer.
func want(t *testing.T, m *machine.Machine, c api.Command, code int, val string, n int) {
	t.Helper()
	if got := m.Apply(c); got != result(code, val, n) {
		t.Errorf("%s: %#v answers %#v, want {%d %q %d}", promiseOf(c), c, got, code, val, n)
	}
}

// restore is the machine of a valid state.
func restore(t *testing.T, w *model) *machine.Machine {
	t.Helper()
	w.sort()
	m, e := machine.Restore(w.snapshot())
	if e != api.OK || m == nil {
		t.Fatalf("M9: Restore of % x: error %d", w.snapshot(), e)
	}
	return m
}

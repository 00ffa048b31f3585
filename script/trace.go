package script

import (
	"strings"

	"quorate/api"
)

const (
	traceHeader = "quorate trace 1\n"
	mostErr     = 999
)

// The names of a mark's parts, with the space ahead of each.
const (
	nameID      = " id="
	nameMembers = " members="
	nameTrans   = " trans="
	nameSender  = " sender="
	nameSeq     = " seq="
	namePos     = " pos="
	nameN       = " n="
	nameBody    = " body="
	nameCmd     = " cmd="
	nameResult  = " result="
	nameErr     = " err="
)

// markWords by the marks' kinds; what is no such word counts as the kind 0, which no mark has.
func markWords() []string {
	return []string{"", "boot", "crash", "halt", "send", "refuse", "block", "install", "deliver", "safe", "adopt", "do", "apply", "reply", "full", "round", "leave"}
}

// PrintTrace writes a trace.
func PrintTrace(l []api.Mark) (string, api.Errno) {
	words := markWords()
	text := []byte(traceHeader)
	for _, m := range l {
		if !markWritable(m) {
			return "", api.ErrLine
		}
		text = append(putMark(text, m, words), lineEnd...)
	}
	return string(text), api.OK
}

// ParseTrace reads a trace; with ErrLine the number of the first line that is none.
func ParseTrace(text string) ([]api.Mark, int, api.Errno) {
	rest, ok := strings.CutPrefix(text, traceHeader)
	if !ok {
		return nil, 0, api.ErrHeader
	}
	words := markWords()
	kinds := numbersOf(words)
	var marks []api.Mark
	for number := 2; rest != ""; number++ {
		line, behind, ended := strings.Cut(rest, lineEnd)
		m := readMark(line, kinds)
		// Each mark has one line, so a line is a mark's if what it seems to tell is written as this very line.
		if !ended || !markWritable(m) || string(putMark(nil, m, words)) != line {
			return nil, number, api.ErrLine
		}
		marks = append(marks, m)
		rest = behind
	}
	return marks, 0, api.OK
}

// markWritable tells whether all of a mark's numbers are within their bounds.
func markWritable(m api.Mark) bool {
	for _, x := range m.Members {
		if !areCounts(x.Pid, x.Inc, x.Cid) {
			return false
		}
	}
	return within(m.Kind, api.MarkBoot, api.MarkLeave) &&
		within(int(m.Err), 0, mostErr) &&
		within(m.Result.N, -api.MaxCount, api.MaxCount) &&
		areCounts(m.At, m.Node, m.Inc, m.Sender, m.Seq, m.Pos, m.N) &&
		areCounts(m.ID.Epoch, m.ID.Lead, m.ID.Inc, m.ID.Cid) &&
		areCounts(m.Cmd.Client, m.Cmd.Inc, m.Cmd.Req, m.Cmd.Op, m.Result.Code) &&
		areCounts(m.Trans...)
}

func areCounts(numbers ...int) bool {
	for _, v := range numbers {
		if !within(v, 0, api.MaxCount) {
			return false
		}
	}
	return true
}

// putMark appends a writable mark's line.
func putMark(b []byte, m api.Mark, words []string) []byte {
	b = putCounts(b, ' ', m.At)
	b = append(append(append(b, ' '), words[m.Kind]...), ' ')
	b = putCounts(b, ' ', m.Node, m.Inc)
	if m.ID != (api.ViewID{}) {
		b = append(b, nameID...)
		b = putCounts(b, '/', m.ID.Epoch, m.ID.Lead, m.ID.Inc, m.ID.Cid)
	}
	for i, x := range m.Members {
		if i == 0 {
			b = append(b, nameMembers...)
		} else {
			b = append(b, ',')
		}
		b = putCounts(b, '/', x.Pid, x.Inc, x.Cid)
	}
	if len(m.Trans) > 0 {
		b = append(b, nameTrans...)
		b = putCounts(b, ',', m.Trans...)
	}
	b = putNamed(b, nameSender, m.Sender)
	b = putNamed(b, nameSeq, m.Seq)
	b = putNamed(b, namePos, m.Pos)
	b = putNamed(b, nameN, m.N)
	if len(m.Body) > 0 {
		b = append(b, nameBody...)
		b = putString(b, string(m.Body))
	}
	b = putMarkCommand(b, m.Cmd)
	b = putResult(b, m.Result)
	return putNamed(b, nameErr, int(m.Err))
}

func putNamed(b []byte, name string, v int) []byte {
	if v == 0 {
		return b
	}
	return putCounts(append(b, name...), ' ', v)
}

func putMarkCommand(b []byte, c api.Command) []byte {
	if c == (api.Command{}) {
		return b
	}
	b = append(b, nameCmd...)
	b = putCounts(b, '/', c.Client, c.Inc, c.Req, c.Op)
	b = putString(append(b, '/'), c.Key)
	b = putString(append(b, '/'), c.Val)
	return putString(append(b, '/'), c.Old)
}

func putResult(b []byte, r api.Result) []byte {
	if r == (api.Result{}) {
		return b
	}
	b = append(b, nameResult...)
	b = putCounts(b, '/', r.Code)
	b = putString(append(b, '/'), r.Val)
	return putCounts(append(b, '/'), '/', r.N)
}

// markReader reads a mark's line from its front to its end. It does not ask whether all is as it must be, for the mark is written again and held against the line: where it cannot go on it tells zeros.
type markReader struct {
	rest string
}

// readMark is the mark that a line seems to tell.
func readMark(line string, kinds map[string]int) api.Mark {
	r := &markReader{rest: line}
	var m api.Mark
	m.At = r.count()
	r.has(" ")
	m.Kind = kinds[r.upto(" ")]
	m.Node = r.count()
	r.has(" ")
	m.Inc = r.count()
	if r.has(nameID) {
		m.ID = api.ViewID{Epoch: r.count(), Lead: r.behindSlash(), Inc: r.behindSlash(), Cid: r.behindSlash()}
	}
	for more := r.has(nameMembers); more; more = r.has(",") {
		m.Members = append(m.Members, api.Member{Pid: r.count(), Inc: r.behindSlash(), Cid: r.behindSlash()})
	}
	for more := r.has(nameTrans); more; more = r.has(",") {
		m.Trans = append(m.Trans, r.count())
	}
	m.Sender = r.named(nameSender)
	m.Seq = r.named(nameSeq)
	m.Pos = r.named(namePos)
	m.N = r.named(nameN)
	if r.has(nameBody) {
		m.Body = []byte(r.text())
	}
	if r.has(nameCmd) {
		m.Cmd = r.command()
	}
	if r.has(nameResult) {
		m.Result = r.result()
	}
	m.Err = api.Errno(r.named(nameErr))
	return m
}

// has tells whether the rest begins with a text, and takes it.
func (r *markReader) has(front string) bool {
	rest, ok := strings.CutPrefix(r.rest, front)
	r.rest = rest
	return ok
}

// upto takes all that stands ahead of a text, and the text.
func (r *markReader) upto(end string) string {
	ahead, rest, _ := strings.Cut(r.rest, end)
	r.rest = rest
	return ahead
}

func (r *markReader) count() int {
	v, rest, _ := takeCount(r.rest)
	r.rest = rest
	return v
}

func (r *markReader) text() string {
	s, rest, _ := takeString(r.rest)
	r.rest = rest
	return s
}

func (r *markReader) behindSlash() int {
	r.has("/")
	return r.count()
}

func (r *markReader) textBehindSlash() string {
	r.has("/")
	return r.text()
}

// named is the count of a part that stands there just if it is not 0.
func (r *markReader) named(name string) int {
	if !r.has(name) {
		return 0
	}
	return r.count()
}

func (r *markReader) command() api.Command {
	var c api.Command
	c.Client = r.count()
	c.Inc = r.behindSlash()
	c.Req = r.behindSlash()
	c.Op = r.behindSlash()
	c.Key = r.textBehindSlash()
	c.Val = r.textBehindSlash()
	c.Old = r.textBehindSlash()
	return c
}

func (r *markReader) result() api.Result {
	var res api.Result
	res.Code = r.count()
	res.Val = r.textBehindSlash()
	r.has("/")
	if r.has("-") {
		res.N = -r.count()
	} else {
		res.N = r.count()
	}
	return res
}

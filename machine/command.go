package machine

import (
	"strconv"
	"strings"

	"quorate/api"
)

// operation is what a command's Op stands for: which texts fit it, and what it does.
type operation struct {
	key, val, old func(text string) bool
	do            func(m *Machine, c api.Command) api.Result
}

// operations is the table of all of them, by Op; there is none with Op 0.
func operations() [api.OpEnd + 1]operation {
	return [...]operation{
		api.OpSet:    {isKey, isValue, isEmpty, set},
		api.OpGet:    {isKey, isEmpty, isEmpty, get},
		api.OpCas:    {isKey, isValue, isValue, cas},
		api.OpDel:    {isKey, isEmpty, isEmpty, del},
		api.OpAdd:    {isKey, isNumber, isEmpty, add},
		api.OpLock:   {isKey, isEmpty, isEmpty, acquire},
		api.OpUnlock: {isKey, isEmpty, isEmpty, unlock},
		api.OpFence:  {isKey, isToken, isEmpty, fence},
		api.OpEnd:    {isEmpty, isClientText, isEmpty, end},
	}
}

func isEmpty(text string) bool { return text == "" }

func isKey(text string) bool { return within(len(text), 1, api.MaxKey) }

func isValue(text string) bool { return len(text) <= api.MaxVal }

func isNumber(text string) bool {
	_, ok := numberOf(text)
	return ok
}

func isToken(text string) bool {
	n, ok := numberOf(text)
	return ok && n > 0
}

func isClientText(text string) bool {
	n, ok := numberOf(text)
	return ok && isClient(n)
}

// numberOf is the number of a number text. Each number has one text: so a text that tells one in another way is none.
func numberOf(text string) (int, bool) {
	if !isValue(text) {
		return 0, false
	}
	n, err := strconv.Atoi(text)
	if err != nil || strconv.Itoa(n) != text {
		return 0, false
	}
	return n, true
}

// CheckCommand tells whether a command can be.
func CheckCommand(c api.Command) api.Errno {
	isAsked := isClient(c.Client) && within(c.Inc, 1, api.MaxCount) && within(c.Req, 1, api.MaxCount)
	if !isAsked || !within(c.Op, api.OpSet, api.OpEnd) {
		return api.ErrCommand
	}
	op := operations()[c.Op]
	if !op.key(c.Key) || !op.val(c.Val) || !op.old(c.Old) {
		return api.ErrCommand
	}
	return api.OK
}

// copied is a command with texts of its own: else a kept key could hold the whole text that it was cut from.
func copied(c api.Command) api.Command {
	c.Key, c.Val, c.Old = strings.Clone(c.Key), strings.Clone(c.Val), strings.Clone(c.Old)
	return c
}

// EncodeCommand makes a command's bytes.
func EncodeCommand(c api.Command) ([]byte, api.Errno) {
	if e := CheckCommand(c); e != api.OK {
		return nil, e
	}
	var w writer
	w.counts(c.Client, c.Inc, c.Req, c.Op)
	w.texts(c.Key, c.Val, c.Old)
	return w.bytes, api.OK
}

// DecodeCommand reads a command's bytes.
func DecodeCommand(b []byte) (c api.Command, e api.Errno) {
	defer func() {
		if recover() != nil {
			c, e = api.Command{}, api.ErrCommand
		}
	}()
	r := reader{bytes: b}
	c.Client, c.Inc, c.Req, c.Op = r.anyCount(), r.anyCount(), r.anyCount(), r.anyCount()
	c.Key, c.Val, c.Old = r.text(0, api.MaxKey), r.text(0, api.MaxVal), r.text(0, api.MaxVal)
	r.end()
	need(CheckCommand(c) == api.OK)
	return c, api.OK
}

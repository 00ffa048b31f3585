package script

import "quorate/api"

// mostCommandText: so long may a command's key and values be in a script, whatever the machine takes.
const mostCommandText = 16

// The parts that stand behind an event's first word.
const (
	partNode    = iota // a node, in A
	partOther          // another node, in B
	partPlace          // any count, in A
	partNumber         // any count, in N
	partDelay          // a delay, in N
	partBlob           // what a user sends, in Body
	partPacket         // a packet's bytes, in Body
	partCommand        // an operation and what it is done with, in Cmd
	partSides          // by node its side, in Sides
)

// layout of an event's line: its first word, and the parts behind it.
type layout struct {
	word  string
	parts []int
}

// layouts by the events' kinds.
func layouts() []layout {
	return []layout{
		api.EvNoop:    {"noop", nil},
		api.EvRound:   {"round", nil},
		api.EvTick:    {"tick", []int{partNode}},
		api.EvSend:    {"send", []int{partNode, partBlob}},
		api.EvDo:      {"do", []int{partNode, partCommand}},
		api.EvCrash:   {"crash", []int{partNode}},
		api.EvRestart: {"restart", []int{partNode}},
		api.EvTear:    {"tear", []int{partNode, partNumber}},
		api.EvCut:     {"cut", []int{partNode, partOther}},
		api.EvHeal:    {"heal", []int{partNode, partOther}},
		api.EvDelay:   {"delay", []int{partNode, partOther, partDelay}},
		api.EvSplit:   {"split", []int{partSides}},
		api.EvDrop:    {"drop", []int{partPlace}},
		api.EvDup:     {"dup", []int{partPlace}},
		api.EvNow:     {"now", []int{partPlace}},
		api.EvHold:    {"hold", []int{partPlace, partDelay}},
		api.EvFlip:    {"flip", []int{partPlace, partNumber}},
		api.EvInject:  {"inject", []int{partNode, partOther, partPacket}},
		api.EvLeave:   {"leave", []int{partNode}},
	}
}

// operations by their numbers; no word is empty, so none has the number 0.
func operations() []string {
	return []string{"", "set", "get", "cas", "del", "add", "lock", "unlock", "fence", "end"}
}

// keywords of event lines, with their numbers: made once for all lines of a text.
type keywords struct {
	layouts           []layout
	events, operation map[string]int
}

func newKeywords() keywords {
	k := keywords{layouts: layouts(), events: map[string]int{}, operation: numbersOf(operations())}
	for kind, l := range k.layouts {
		k.events[l.word] = kind
	}
	return k
}

// numbersOf tells by word its place in a list.
func numbersOf(words []string) map[string]int {
	numbers := map[string]int{}
	for number, w := range words {
		numbers[w] = number
	}
	return numbers
}

// ParseEvent reads one event line, for so many nodes; a line that is no event is EvNoop.
func ParseEvent(line string, nodes int) api.Event {
	if !within(nodes, 1, api.MaxNodes) {
		return api.Event{}
	}
	return newKeywords().event(line, nodes)
}

func (k keywords) event(line string, nodes int) api.Event {
	r := readWords(line)
	e := api.Event{Kind: r.keyword(k.events)}
	for _, part := range k.layouts[e.Kind].parts {
		k.readPart(r, part, &e)
	}
	if !r.done() || !writable(e, nodes) {
		return api.Event{}
	}
	return e
}

// readPart reads a part into its field. Whether it is within its bounds is asked of the whole event.
func (k keywords) readPart(r *wordReader, part int, e *api.Event) {
	switch part {
	case partNode, partPlace:
		e.A = r.count()
	case partOther:
		e.B = r.count()
	case partNumber, partDelay:
		e.N = r.count()
	case partBlob, partPacket:
		e.Body = []byte(r.next(true))
	case partSides:
		e.Sides = r.counts()
	case partCommand:
		e.Cmd.Op = r.keyword(k.operation)
		e.Cmd.Key = r.next(true)
		for _, field := range []*string{&e.Cmd.Val, &e.Cmd.Old} {
			if len(r.words) > 0 {
				*field = r.next(true)
			}
		}
	}
}

// PrintEvent writes one event line.
func PrintEvent(e api.Event, nodes int) (string, api.Errno) {
	if !within(nodes, 1, api.MaxNodes) {
		return "", api.ErrArg
	}
	if !writable(e, nodes) {
		return "", api.ErrEvent
	}
	l := layouts()[e.Kind]
	line := []byte(l.word)
	for _, part := range l.parts {
		line = putPart(append(line, ' '), part, e)
	}
	return string(line), api.OK
}

func putPart(line []byte, part int, e api.Event) []byte {
	switch part {
	case partNode, partPlace:
		return putCounts(line, ' ', e.A)
	case partOther:
		return putCounts(line, ' ', e.B)
	case partNumber, partDelay:
		return putCounts(line, ' ', e.N)
	case partBlob, partPacket:
		return putString(line, string(e.Body))
	case partSides:
		return putCounts(line, ' ', e.Sides...)
	}
	return putCommand(line, e.Cmd)
}

func putCommand(line []byte, c api.Command) []byte {
	line = append(line, operations()[c.Op]...)
	line = putString(append(line, ' '), c.Key)
	if c.Val != "" || c.Old != "" {
		line = putString(append(line, ' '), c.Val)
	}
	if c.Old != "" {
		line = putString(append(line, ' '), c.Old)
	}
	return line
}

// writable tells whether an event is one that a line gives, for so many nodes.
func writable(e api.Event, nodes int) bool {
	all := layouts()
	if !within(e.Kind, 0, len(all)-1) {
		return false
	}
	unnamed := e
	for _, part := range all[e.Kind].parts {
		if !fits(part, e, nodes) {
			return false
		}
		blank(part, &unnamed)
	}
	return unnamed.A == 0 && unnamed.B == 0 && unnamed.N == 0 && len(unnamed.Body) == 0 && len(unnamed.Sides) == 0 && unnamed.Cmd == api.Command{}
}

// fits tells whether a part is within its bounds.
func fits(part int, e api.Event, nodes int) bool {
	switch part {
	case partNode:
		return within(e.A, 0, nodes-1)
	case partOther:
		return within(e.B, 0, nodes-1) && e.B != e.A
	case partPlace:
		return within(e.A, 0, api.MaxCount)
	case partNumber:
		return within(e.N, 0, api.MaxCount)
	case partDelay:
		return within(e.N, 1, api.MaxDelay)
	case partBlob:
		return len(e.Body) <= api.MaxBlob
	case partPacket:
		return len(e.Body) <= api.MaxPacket
	case partSides:
		return sidesFit(e.Sides, nodes)
	}
	return commandFits(e.Cmd)
}

func sidesFit(sides []int, nodes int) bool {
	for _, side := range sides {
		if !within(side, 0, api.MaxNodes-1) {
			return false
		}
	}
	return len(sides) == nodes
}

func commandFits(c api.Command) bool {
	return within(c.Op, api.OpSet, api.OpEnd) &&
		len(c.Key) <= mostCommandText && len(c.Val) <= mostCommandText && len(c.Old) <= mostCommandText &&
		c.Client == 0 && c.Inc == 0 && c.Req == 0
}

// blank empties the field of a part, so that what is left is what no part names.
func blank(part int, e *api.Event) {
	switch part {
	case partNode, partPlace:
		e.A = 0
	case partOther:
		e.B = 0
	case partNumber, partDelay:
		e.N = 0
	case partBlob, partPacket:
		e.Body = nil
	case partSides:
		e.Sides = nil
	case partCommand:
		e.Cmd = api.Command{}
	}
}

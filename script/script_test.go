package script_test

import (
	"fmt"
	"math/rand"
	"strings"
	"testing"

	"quorate/api"
	"quorate/script"
)

const second = "nodes 3 window 4 base 2 step 1 cap 8 room 500 floor 0\n"

func TestExample(t *testing.T) {
	text := "# three nodes\nquorate 1\n" + second + "  votes 1  1 1\n\nround\ntick 3\ndo 1 cas \"k\" \"b\" \"a\""
	want := api.Script{Config: config(), Events: []api.Event{{Kind: api.EvRound}, {}, {Kind: api.EvDo, A: 1, Cmd: command(api.OpCas, "k", "b", "a")}}}
	for _, text := range []string{text, text + "\n", text + "\n\n"} {
		s, n, e := script.Parse(text)
		if e != api.OK || n != 1 || !sameScript(s, want) {
			t.Errorf("S4: Parse(%q) = %v, %d, %d", text, s, n, e)
		}
	}
	clean := header + "round\nnoop\ndo 1 cas \"k\" \"b\" \"a\"\n"
	if text, e := script.Print(want); text != clean || e != api.OK {
		t.Errorf("S5: Print = %q, %d, want %q", text, e, clean)
	}
}

func TestConfigOfText(t *testing.T) {
	s, n, e := script.Parse("quorate 1\nnodes 2 window 3 base 4 step 5 cap 6 room 7 floor " + bigest + "\nvotes 8 9\n")
	want := api.Config{Nodes: 2, Window: 3, Base: 4, Step: 5, Cap: 6, Room: 7, Floor: big, Votes: []int{8, 9}}
	if e != api.OK || n != 0 || !sameScript(s, api.Script{Config: want}) {
		t.Errorf("S4: %v, %d, %d, want %v", s, n, e, want)
	}
	text, e := script.Print(api.Script{Config: want})
	if e != api.OK || text != "quorate 1\nnodes 2 window 3 base 4 step 5 cap 6 room 7 floor "+bigest+"\nvotes 8 9\n" {
		t.Errorf("S5: %q, %d", text, e)
	}
}

func TestHeaders(t *testing.T) {
	sixteen := strings.Repeat(" 1", 16)
	for _, c := range []struct {
		text string
		want api.Errno
	}{
		{header, api.OK}, {header[:len(header)-1], api.OK}, {strings.Replace(strings.Replace(header, "nodes 3", "nodes 1", 1), "1 1 1", "1", 1), api.OK},
		{"", api.ErrHeader}, {"\n", api.ErrHeader}, {"\n\n\n\n", api.ErrHeader}, {"# quorate 1\n", api.ErrHeader}, {"quorate 1\n", api.ErrHeader}, {"quorate 1\n" + second, api.ErrHeader}, {second + "votes 1 1 1\n", api.ErrHeader},
		{"quorate 1\nvotes 1 1 1\n" + second, api.ErrHeader}, {"round\n" + header, api.ErrHeader}, {"quorate 1\nround\n" + second + "votes 1 1 1\n", api.ErrHeader}, {"quorate 1\n" + second + "round\nvotes 1 1 1\n", api.ErrHeader}, {"quorate 1\n" + header, api.ErrHeader},
		{"quorate 2\n" + header[10:], api.ErrHeader}, {"quorate 01\n" + header[10:], api.ErrHeader}, {"quorate\n" + header[10:], api.ErrHeader}, {"quorate 1 1\n" + header[10:], api.ErrHeader}, {"Quorate 1\n" + header[10:], api.ErrHeader}, {"quorate \"1\"\n" + header[10:], api.ErrHeader}, {"\"quorate\" 1\n" + header[10:], api.ErrHeader}, {"quorate trace 1\n" + header[10:], api.ErrHeader}, {"quorate1\n" + header[10:], api.ErrHeader}, {"quorate 1\r\n" + header[10:], api.ErrHeader}, {"quorate 1 #\n" + header[10:], api.ErrHeader}, {"\xef\xbb\xbf" + header, api.ErrHeader},
		{"\tquorate \t 1 \n" + header[10:], api.OK}, {strings.ReplaceAll(header, " ", "\t"), api.OK}, {strings.ReplaceAll(header, "\n", " \n"), api.OK}, {strings.ReplaceAll(header, "\n", "\n\n#\n \t\n \t# x\n"), api.OK}, {strings.ReplaceAll(header, "\n", "\"\n"), api.ErrHeader},
		{strings.Replace(header, "votes 1 1 1", "votes", 1), api.ErrHeader}, {strings.Replace(header, "votes 1 1 1", "votes 1 1", 1), api.ErrConfig}, {strings.Replace(header, "votes 1 1 1", "votes 1 1 1 1", 1), api.ErrConfig}, {strings.Replace(header, "votes 1 1 1", "votes 1 1 01", 1), api.ErrHeader}, {strings.Replace(header, "votes 1 1 1", "votes 1 1 -1", 1), api.ErrHeader}, {strings.Replace(header, "votes 1 1 1", "votes 1 1 \"1\"", 1), api.ErrHeader}, {strings.Replace(header, "votes 1 1 1", "votes 1 1 x", 1), api.ErrHeader}, {strings.Replace(header, "votes 1 1 1", "votes 0 0 0", 1), api.ErrConfig}, {strings.Replace(header, "votes 1 1 1", "votes 1 1 "+bigest, 1), api.ErrConfig}, {strings.Replace(header, "votes 1 1 1", "votes 1 1 "+beyond, 1), api.ErrHeader},
		{strings.Replace(header, " 1 1 1", sixteen, 1), api.ErrConfig}, {strings.Replace(header, " 1 1 1", sixteen+" 1", 1), api.ErrHeader}, {strings.Replace(strings.Replace(header, "nodes 3", "nodes 16", 1), " 1 1 1", sixteen, 1), api.OK}, {strings.Replace(strings.Replace(header, "nodes 3", "nodes 17", 1), " 1 1 1", sixteen, 1), api.ErrConfig}, {strings.Replace(strings.Replace(header, "nodes 3", "nodes 17", 1), " 1 1 1", sixteen+" 1", 1), api.ErrHeader},
		{strings.Replace(header, "votes", "vote", 1), api.ErrHeader}, {strings.Replace(header, "votes", "Votes", 1), api.ErrHeader}, {strings.Replace(header, "votes", "\"votes\"", 1), api.ErrHeader},
		{strings.Replace(header, " floor 0", "", 1), api.ErrHeader}, {strings.Replace(header, " floor 0", " floor", 1), api.ErrHeader}, {strings.Replace(header, " floor 0", " floor 0 0", 1), api.ErrHeader}, {strings.Replace(header, " floor 0", " floor 0 x 1", 1), api.ErrHeader}, {strings.Replace(header, "floor 0", "floor "+bigest, 1), api.OK}, {strings.Replace(header, "floor 0", "floor "+beyond, 1), api.ErrHeader}, {strings.Replace(header, "floor 0", "floor -1", 1), api.ErrHeader}, {strings.Replace(header, "floor 0", "floor \"0\"", 1), api.ErrHeader}, {strings.Replace(header, "window 4 base 2", "base 2 window 4", 1), api.ErrHeader},
		{strings.Replace(header, "nodes 3", "nodes 0", 1), api.ErrConfig}, {strings.Replace(header, "nodes 3", "nodes 2", 1), api.ErrConfig}, {strings.Replace(header, "window 4", "window 9", 1), api.ErrConfig}, {strings.Replace(header, "base 2", "base 9", 1), api.ErrConfig}, {strings.Replace(header, "step 1", "step 0", 1), api.ErrConfig}, {strings.Replace(header, "cap 8", "cap 65", 1), api.ErrConfig}, {strings.Replace(header, "room 500", "room 20001", 1), api.ErrConfig},
	} {
		s, n, e := script.Parse(c.text)
		if e != c.want || n != 0 || e != api.OK && !sameScript(s, api.Script{}) || e == api.OK && len(s.Events) != 0 {
			t.Errorf("S4: Parse(%q) = %v, %d, %d, want %d", c.text, s, n, e, c.want)
		}
	}
	for _, name := range []string{"nodes", "window", "base", "step", "cap", "room", "floor"} {
		for _, other := range []string{"x", `"` + name + `"`, strings.ToUpper(name)} {
			if s, n, e := script.Parse(strings.Replace(header, name+" ", other+" ", 1)); e != api.ErrHeader || n != 0 || !sameScript(s, api.Script{}) {
				t.Errorf("S4: %s for %s: %v, %d, %d", other, name, s, n, e)
			}
		}
	}
}

// TestParseErrorOrder: where several errors apply, the first is told.
func TestParseErrorOrder(t *testing.T) {
	many := strings.Repeat("x\n", api.MaxEvents+1)
	fill := func(text string, size int) string { return text + strings.Repeat("#", size-len(text)) }
	badConfig := strings.Replace(header, "cap 8", "cap 1", 1)
	for _, c := range []struct {
		name, text string
		want       api.Errno
	}{
		{"too long, nothing else", strings.Repeat("x", api.MaxText+1), api.ErrText},
		{"too long, good", fill(header, api.MaxText+1), api.ErrText},
		{"just so long", fill(header, api.MaxText), api.OK},
		{"just so long, no header", strings.Repeat("x", api.MaxText), api.ErrHeader},
		{"too long, many", fill(header+many, api.MaxText+1), api.ErrText},
		{"no header, many", "quorate 2\n" + many, api.ErrHeader},
		{"bad config, many", badConfig + many, api.ErrConfig},
		{"many", header + many, api.ErrMany},
		{"just so many", header + strings.Repeat("round\n", api.MaxEvents), api.OK},
		{"just so many, and lines that are passed over", header + strings.Repeat("round\n\n#round\n", api.MaxEvents), api.OK},
		{"one more without its end", header + strings.Repeat("round\n", api.MaxEvents) + "x", api.ErrMany},
		{"passed-over lines alone", header + strings.Repeat(" \n#\n", 9000), api.OK},
	} {
		s, n, e := script.Parse(c.text)
		if e != c.want || e != api.OK && (n != 0 || !sameScript(s, api.Script{})) {
			t.Errorf("S4: %s: .., %d, %d, want %d", c.name, n, e, c.want)
		}
	}
}

func TestNoopsAreCounted(t *testing.T) {
	s, n, e := script.Parse(header + "noop\nround\nx\ntick 3\n#noop\n\ntick 2\nround 1\n \"\n")
	kinds := []int{api.EvNoop, api.EvRound, api.EvNoop, api.EvNoop, api.EvTick, api.EvNoop, api.EvNoop}
	if e != api.OK || n != 5 || len(s.Events) != len(kinds) {
		t.Fatalf("S4: %v, %d, %d", s, n, e)
	}
	for i, k := range kinds {
		if s.Events[i].Kind != k {
			t.Errorf("S4: event %d: %v, want kind %d", i, s.Events[i], k)
		}
	}
}

func TestAllEventsInAScript(t *testing.T) {
	want := api.Script{Config: config()}
	text := header
	for _, s := range samples() {
		want.Events = append(want.Events, s.event)
		text += s.line + "\n"
	}
	s, n, e := script.Parse(text)
	if e != api.OK || n != 1 || !sameScript(s, want) {
		t.Errorf("S4: all samples: %d no-ops, %d", n, e)
	}
	if u, e := script.Print(want); u != text || e != api.OK {
		t.Errorf("S5: all samples: %.300q, %d", u, e)
	}
}

func TestPrintErrors(t *testing.T) {
	good := api.Event{Kind: api.EvRound}
	bad := api.Event{Kind: api.EvTick, A: 3}
	long := api.Event{Kind: api.EvSend, Body: []byte(strings.Repeat("a", api.MaxBlob))}
	repeat := func(n int, e api.Event, more ...api.Event) []api.Event {
		var l []api.Event
		for range n {
			l = append(l, e)
		}
		return append(l, more...)
	}
	noConfig := config()
	noConfig.Votes = nil
	one := api.Config{Nodes: 1, Window: 1, Base: 1, Step: 1, Cap: 1, Room: 1, Votes: []int{1}}
	for _, c := range []struct {
		name   string
		script api.Script
		want   api.Errno
	}{
		{"nothing", api.Script{}, api.ErrConfig},
		{"no events", api.Script{Config: config()}, api.OK},
		{"config first", api.Script{Config: noConfig, Events: repeat(api.MaxEvents+1, bad)}, api.ErrConfig},
		{"many first", api.Script{Config: config(), Events: repeat(api.MaxEvents+1, bad)}, api.ErrMany},
		{"many", api.Script{Config: config(), Events: repeat(api.MaxEvents+1, good)}, api.ErrMany},
		{"just so many", api.Script{Config: config(), Events: repeat(api.MaxEvents, good)}, api.OK},
		{"event", api.Script{Config: config(), Events: repeat(3, good, bad)}, api.ErrEvent},
		{"event behind too long a text", api.Script{Config: config(), Events: repeat(200, long, bad)}, api.ErrEvent},
		{"event ahead of too long a text", api.Script{Config: config(), Events: append([]api.Event{bad}, repeat(200, long)...)}, api.ErrEvent},
		{"text", api.Script{Config: config(), Events: repeat(200, long)}, api.ErrText},
		{"text, and short events behind", api.Script{Config: config(), Events: repeat(100, long, repeat(100, good)...)}, api.ErrText},
		{"an event of more nodes", api.Script{Config: one, Events: []api.Event{{Kind: api.EvTick, A: 1}}}, api.ErrEvent},
		{"an event of so many nodes", api.Script{Config: one, Events: []api.Event{{Kind: api.EvTick}}}, api.OK},
	} {
		text, e := script.Print(c.script)
		if e != c.want || (text == "") != (e != api.OK) {
			t.Errorf("S5: %s: %.60q, %d, want %d", c.name, text, e, c.want)
		}
	}
}

// TestPrintBound: a text of MaxText bytes is told, one byte more is not; and a short event behind the bound doesn't hide it.
func TestPrintBound(t *testing.T) {
	for extra := -1; extra <= 1; extra++ {
		s := api.Script{Config: config()}
		size := len(header)
		for size < api.MaxText+extra {
			front := len("send 0 \"\"\n")
			body := min(api.MaxBlob, api.MaxText+extra-size-front)
			if left := api.MaxText + extra - size - front - body; 0 < left && left < front {
				body -= front
			}
			s.Events = append(s.Events, api.Event{Kind: api.EvSend, Body: []byte(strings.Repeat("a", body))})
			size += front + body
		}
		text, e := script.Print(s)
		if size != api.MaxText+extra {
			t.Fatalf("the test's own size: %d", size)
		}
		if extra <= 0 && (e != api.OK || len(text) != size) || extra > 0 && (e != api.ErrText || text != "") {
			t.Errorf("S5: a text of %d bytes: %d bytes, %d", size, len(text), e)
		}
		if extra <= 0 {
			if back, n, e := script.Parse(text); e != api.OK || n != 0 || !sameScript(back, s) {
				t.Errorf("S6: a text of %d bytes: %d, %d", size, n, e)
			}
		}
	}
}

func TestWildScripts(t *testing.T) {
	r := rand.New(rand.NewSource(3))
	for range 2000 {
		want := wildScript(r)
		text, e := script.Print(want)
		if e != api.OK {
			t.Fatalf("S5: Print(%v) = %d", want, e)
		}
		idle := 0
		for _, e := range want.Events {
			if e.Kind == api.EvNoop {
				idle++
			}
		}
		s, n, e := script.Parse(text)
		if e != api.OK || n != idle || !sameScript(s, want) {
			t.Fatalf("S6: Parse(%q) = %v, %d, %d, want %v", text, s, n, e, want)
		}
		if again, e := script.Print(s); again != text || e != api.OK {
			t.Fatalf("S6: printed again: %q, %d, want %q", again, e, text)
		}
		odd := spoil(r, spoil(r, text))
		s, n, e = script.Parse(odd)
		if e != api.OK {
			continue
		}
		u, e := script.Print(s)
		if e != api.OK {
			t.Fatalf("S6: Print of what Parse(%q) answers: %d", odd, e)
		}
		if back, m, e := script.Parse(u); e != api.OK || m != n || !sameScript(back, s) {
			t.Fatalf("S6: Parse(%q) = %v, %d, %d, want %v, %d", u, back, m, e, s, n)
		}
	}
}

// TestLineByLine: what is passed over changes nothing, and each further line is one event more.
func TestLineByLine(t *testing.T) {
	r := rand.New(rand.NewSource(4))
	passed := []string{"\n", " \n", "\t\t\n", "#\n", " # round\n", "\t#\"\n", "##\xff\n"}
	ends := []string{"", " ", "\t", " \t "}
	for range 500 {
		want := wildScript(r)
		text, _ := script.Print(want)
		odd := ""
		for line := range strings.Lines(text) {
			for r.Intn(3) == 0 {
				odd += passed[r.Intn(len(passed))]
			}
			odd += ends[r.Intn(4)] + strings.TrimSuffix(line, "\n") + ends[r.Intn(4)] + "\n"
		}
		odd += passed[r.Intn(len(passed))]
		s, n, e := script.Parse(odd)
		if e != api.OK || !sameScript(s, want) {
			t.Fatalf("S7: Parse(%q) = %v, %d, %d, want %v", odd, s, n, e, want)
		}
		more := spoil(r, fmt.Sprintf("tick %d", r.Intn(20)))
		if strings.Contains(more, "\n") || strings.HasPrefix(strings.TrimLeft(more, " \t"), "#") || strings.Trim(more, " \t") == "" {
			continue
		}
		event := script.ParseEvent(more, want.Config.Nodes)
		longer := want
		longer.Events = append(longer.Events[:len(longer.Events):len(longer.Events)], event)
		m := n
		if event.Kind == api.EvNoop {
			m++
		}
		for _, end := range []string{"", "\n"} {
			if s, got, e := script.Parse(odd + more + end); e != api.OK || got != m || !sameScript(s, longer) {
				t.Fatalf("S7: Parse(%q) = %v, %d, %d, want %v, %d", odd+more+end, s, got, e, longer, m)
			}
		}
	}
}

package script_test

import (
	"fmt"
	"math/rand"
	"slices"
	"strings"
	"testing"

	"quorate/api"
	"quorate/script"
)

func TestEventsBothWays(t *testing.T) {
	seen := map[int]int{}
	for _, s := range samples() {
		seen[s.event.Kind]++
		wantEvent(t, "S2", s.line, 3, script.ParseEvent(s.line, 3), s.event)
		if line, e := script.PrintEvent(s.event, 3); line != s.line || e != api.OK {
			t.Errorf("S3: PrintEvent(%.200v) = %.200q, %d, want %.200q", s.event, line, e, s.line)
		}
	}
	if len(seen) != 19 {
		t.Errorf("S2: samples of %d kinds, want 19", len(seen))
	}
}

func TestEventBlanks(t *testing.T) {
	for _, s := range samples() {
		if len(s.line) > 100 || strings.Contains(s.line, `a b`) || strings.Contains(s.line, `~`) {
			continue // blanks inside of a string, or long
		}
		for _, line := range []string{
			" " + s.line, "\t" + s.line, s.line + " ", s.line + "\t", " \t " + s.line + "\t \t",
			strings.ReplaceAll(s.line, " ", "\t"), strings.ReplaceAll(s.line, " ", " \t  "),
		} {
			wantEvent(t, "S2", line, 3, script.ParseEvent(line, 3), s.event)
		}
		for _, line := range []string{
			s.line + "\n", "\n" + s.line, s.line + " \n", s.line + "\r", s.line + "\x00", s.line + "\v", "\u00a0" + s.line, s.line + "\u00a0",
			s.line + " x", s.line + ` ""x`, s.line + ` "`, `"` + s.line, s.line + " #", "# " + s.line,
			strings.Replace(s.line, " ", "\n", 1) + "\n", strings.ToUpper(s.line[:1]) + s.line[1:],
		} {
			wantEvent(t, "S2", line, 3, script.ParseEvent(line, 3), api.Event{})
		}
	}
}

// TestEventWordCount: a word too many, a word too few, a word that is written as a string, a string that is written as a word.
func TestEventWordCount(t *testing.T) {
	for _, s := range samples() {
		words := strings.Split(s.line, " ")
		if len(s.line) > 100 || strings.Contains(s.line, `\`) || strings.Contains(s.line, `a b`) {
			continue
		}
		for i, w := range words {
			less := append(slices.Clone(words[:i]), words[i+1:]...)
			twice := append(slices.Clone(words[:i+1]), words[i:]...)
			other := slices.Clone(words)
			if strings.HasPrefix(w, `"`) {
				other[i] = "x" + strings.Trim(w, `"`)
			} else {
				other[i] = `"` + w + `"`
			}
			lines := []string{strings.Join(other, " ")}
			if s.event.Kind != api.EvDo || i < 3 {
				lines = append(lines, strings.Join(less, " "), strings.Join(twice, " "))
			}
			for _, line := range lines {
				if e := script.ParseEvent(line, 3); e.Kind == s.event.Kind && s.event.Kind != 0 {
					if s.event.Kind == api.EvDo && len(words) > 4 { // one string of several left out is a command still
						continue
					}
					t.Errorf("S2: ParseEvent(%q) = %v", line, e)
				}
			}
		}
	}
}

func TestNoEvents(t *testing.T) {
	for _, line := range []string{
		"", " ", "\t", "#", "# noop", "\n", "\x00", "noop 1", "noop noop", "round 0", `round ""`, "round\n", "Round", "ROUND", "rounds", "roun", "tic",
		"tick", "tick 3", "tick -1", "tick +1", "tick 01", "tick 00", "tick 1.0", "tick 0x1", "tick 1 1", `tick "1"`, "tick x", "tick 99999999999999999999", "tick " + beyond, "tick 18446744073709551616", "tick \u0661",
		"crash", "crash 3", "crash 0 0", "restart", "restart 3", "restart 0 1", "leave", "leave 3", "leave 0 0",
		"send", "send 0", `send "a"`, `send 3 "a"`, "send 0 a", `send 0 "a" "b"`, `send 0 "a" b`, `send "0" "a"`,
		`send 0 "a`, `send 0 a"`, `send 0 "`, `send 0 "a"b`, `send 0 "a""b"`, `send 0 a"b"`, `send0 "a"`, `send 0"a"`, `send 0 "\X61"`, `send 0 "\x6"`, `send 0 "\x"`, `send 0 "\x6G"`, `send 0 "\xA0"`, `send 0 "\xaF"`, `send 0 "\xg0"`, `send 0 "\n"`, `send 0 "\ "`, `send 0 "\`, `send 0 "\"`, `send 0 "\x`, `send 0 "\x6`, `send 0 "\x61`, `send 0 "\u0061"`, `send 0 'a'`, "send 0 `a`", "send 0 \"\u00e9\"", "send 0 \"\xc8\"", "send 0 \"a\tb\"", "send 0 \"a\nb\"", "send 0 \"\x7f\"", "send 0 \"\x1f\"", "send 0 \"\\x\uff11\uff12\"",
		"do", "do 0", "do 0 get", `do get "k"`, `do 0 put "k"`, `do 0 "get" "k"`, `do 0 Get "k"`, `do 0 1 "k"`, `do 0 "k"`, `do 0 get k`, `do 0 get "k" v`, `do 0 get "k" "v" o`, `do 0 get k "v"`, `do 0 get "a" "b" "c" "d"`, `do 3 get "k"`, `do 0 noop "k"`,
		"tear", "tear 0", "tear 3 0", "tear 0 -1", "tear 0 00", "tear 0 " + beyond, "tear 0 0 0", "tear 0 9223372036854775808",
		"cut", "cut 0", "cut 0 0", "cut 2 2", "cut 0 3", "cut 3 0", "cut 0 1 2", "heal", "heal 1", "heal 1 1", "heal 0 3", "heal 3 0", "heal 0 1 2",
		"delay", "delay 0 1", "delay 0 1 0", "delay 0 1 17", "delay 0 0 1", "delay 0 1 01", "Delay 0 1 1", "delay 0 1 1 1", `delay "0" 1 1`, "delay 3 1 1", "delay 1 3 1", "delay 0 1 -1",
		"split", "split 0", "split 0 0", "split 0 0 0 0", "split 0 0 16", "split 16 0 0", "split 0 -1 0", "split 0 0 x", `split 0 0 "0"`, "split 0 01 0",
		"drop", "drop -1", "drop " + beyond, "drop 1 1", "drop x", "dup", "dup " + beyond, "dup 1 1", "now", "now " + beyond, "now 1 1",
		"hold", "hold 0", "hold 0 0", "hold 0 17", "hold " + beyond + " 1", "hold 0 1 1", "flip", "flip 0", "flip " + beyond + " 0", "flip 0 " + beyond, "flip 0 0 0",
		"inject", "inject 0", "inject 0 1", `inject 0 0 ""`, `inject 0 3 ""`, `inject 3 0 ""`, `inject 0 1 a`, `inject 0 1 "a" "b"`, `inject 0 "a"`,
		`send 0 "` + strings.Repeat("a", api.MaxBlob+1) + `"`, `inject 0 1 "` + strings.Repeat("a", api.MaxPacket+1) + `"`,
		`do 0 get "12345678901234567"`, `do 0 get "k" "12345678901234567"`, `do 0 get "k" "v" "12345678901234567"`,
	} {
		wantEvent(t, "S2", line, 3, script.ParseEvent(line, 3), api.Event{})
	}
}

// TestStringBounds: what counts is what the string stands for, not how it is written.
func TestStringBounds(t *testing.T) {
	for _, c := range []struct {
		front string
		most  int
	}{{"send 0 ", api.MaxBlob}, {"inject 0 1 ", api.MaxPacket}, {"do 0 get ", 16}, {`do 0 get "" `, 16}, {`do 0 get "" "" `, 16}} {
		for n := c.most - 1; n <= c.most+1; n++ {
			line := c.front + `"` + strings.Repeat(`\x41`, n) + `"`
			e := script.ParseEvent(line, 3)
			if got := e.Kind != api.EvNoop; got != (n <= c.most) {
				t.Errorf("S2: %s and %d bytes: an event: %v", c.front, n, got)
			}
			body := []byte(strings.Repeat("A", n))
			if n <= c.most && string(e.Body)+e.Cmd.Key+e.Cmd.Val+e.Cmd.Old != string(body) {
				t.Errorf("S2: %s and %d bytes: other bytes", c.front, n)
			}
		}
	}
}

// TestStringBytes: each byte in each form.
func TestStringBytes(t *testing.T) {
	for b := range 256 {
		want := api.Event{Kind: api.EvSend, Body: []byte{byte(b)}}
		hex := fmt.Sprintf(`send 0 "\x%02x"`, b)
		wantEvent(t, "S2", hex, 3, script.ParseEvent(hex, 3), want)

		bare := "send 0 \"" + string([]byte{byte(b)}) + "\""
		isPlain := 32 <= b && b <= 126 && b != '"' && b != '\\'
		if isPlain {
			wantEvent(t, "S2", bare, 3, script.ParseEvent(bare, 3), want)
		} else {
			wantEvent(t, "S2", bare, 3, script.ParseEvent(bare, 3), api.Event{})
		}

		slashed := "send 0 \"\\" + string([]byte{byte(b)}) + "\""
		if b == '"' || b == '\\' {
			wantEvent(t, "S2", slashed, 3, script.ParseEvent(slashed, 3), want)
		} else {
			wantEvent(t, "S2", slashed, 3, script.ParseEvent(slashed, 3), api.Event{})
		}

		own := hex
		if isPlain {
			own = bare
		} else if b == '"' || b == '\\' {
			own = slashed
		}
		if line, e := script.PrintEvent(want, 3); line != own || e != api.OK {
			t.Errorf("S3: the byte %d: %q, %d, want %q", b, line, e, own)
		}

		behind := `send 0 "a"` + string([]byte{byte(b)})
		if b == ' ' || b == '\t' {
			wantEvent(t, "S2", behind, 3, script.ParseEvent(behind, 3), api.Event{Kind: api.EvSend, Body: []byte("a")})
		} else {
			wantEvent(t, "S2", behind, 3, script.ParseEvent(behind, 3), api.Event{})
		}

		for place, digits := range []string{"\\x" + string([]byte{byte(b)}) + "0", "\\x0" + string([]byte{byte(b)})} {
			line := "send 0 \"" + digits + "\""
			at := strings.IndexByte("0123456789abcdef", byte(b))
			if at < 0 {
				wantEvent(t, "S2", line, 3, script.ParseEvent(line, 3), api.Event{})
			} else {
				wantEvent(t, "S2", line, 3, script.ParseEvent(line, 3), api.Event{Kind: api.EvSend, Body: []byte{byte(at * []int{16, 1}[place])}})
			}
		}
	}
}

func TestNodesBound(t *testing.T) {
	for nodes := -2; nodes <= 19; nodes++ {
		valid := 1 <= nodes && nodes <= api.MaxNodes
		for p := range 20 {
			line, want := fmt.Sprintf("tick %d", p), api.Event{}
			if valid && p < nodes {
				want = api.Event{Kind: api.EvTick, A: p}
			}
			wantEvent(t, "S2", line, nodes, script.ParseEvent(line, nodes), want)
			line, want = fmt.Sprintf("cut %d %d", 0, p), api.Event{}
			if valid && p < nodes && p != 0 {
				want = api.Event{Kind: api.EvCut, B: p}
			}
			wantEvent(t, "S2", line, nodes, script.ParseEvent(line, nodes), want)

			e := api.Event{Kind: api.EvSplit, Sides: make([]int, p)}
			line, code := script.PrintEvent(e, nodes)
			switch {
			case !valid && (line != "" || code != api.ErrArg):
				t.Errorf("S3: for %d nodes: %q, %d, want ErrArg", nodes, line, code)
			case valid && p != nodes && (line != "" || code != api.ErrEvent):
				t.Errorf("S3: %d sides for %d nodes: %q, %d, want ErrEvent", p, nodes, line, code)
			case valid && p == nodes && (line != "split"+strings.Repeat(" 0", p) || code != api.OK):
				t.Errorf("S3: %d sides for %d nodes: %q, %d", p, nodes, line, code)
			}
			split := "split" + strings.Repeat(" 0", p)
			want = api.Event{}
			if valid && p == nodes {
				want = e
			}
			wantEvent(t, "S2", split, nodes, script.ParseEvent(split, nodes), want)
		}
		if line, e := script.PrintEvent(api.Event{Kind: -1}, nodes); !valid && e != api.ErrArg || valid && e != api.ErrEvent || line != "" {
			t.Errorf("S3: no kind, for %d nodes: %q, %d", nodes, line, e)
		}
		if e := script.ParseEvent("round", nodes); (e.Kind == api.EvRound) != valid {
			t.Errorf("S2: round, for %d nodes: %v", nodes, e)
		}
	}
}

// TestUnnamedFields: a field that the line doesn't name must be zero.
func TestUnnamedFields(t *testing.T) {
	fields := []struct {
		name string
		set  func(e *api.Event)
	}{
		{"A", func(e *api.Event) { e.A++ }},
		{"B", func(e *api.Event) { e.B++ }},
		{"N", func(e *api.Event) { e.N++ }},
		{"Body", func(e *api.Event) { e.Body = append(slices.Clone(e.Body), 'x') }},
		{"Sides", func(e *api.Event) { e.Sides = append(slices.Clone(e.Sides), 0) }},
		{"Client", func(e *api.Event) { e.Cmd.Client++ }},
		{"Inc", func(e *api.Event) { e.Cmd.Inc++ }},
		{"Req", func(e *api.Event) { e.Cmd.Req++ }},
		{"Op", func(e *api.Event) { e.Cmd.Op++ }},
		{"Key", func(e *api.Event) { e.Cmd.Key += "x" }},
		{"Val", func(e *api.Event) { e.Cmd.Val += "x" }},
		{"Old", func(e *api.Event) { e.Cmd.Old += "x" }},
	}
	named := map[string]string{
		"noop": "", "round": "", "tick": "A", "send": "A Body", "do": "A Op Key Val Old", "crash": "A", "restart": "A", "tear": "A N", "leave": "A",
		"cut": "A B", "heal": "A B", "delay": "A B N", "split": "Sides", "drop": "A", "dup": "A", "now": "A", "hold": "A N", "flip": "A N", "inject": "A B Body",
	}
	for _, s := range samples() {
		word, _, _ := strings.Cut(s.line, " ")
		for _, f := range fields {
			if slices.Contains(strings.Fields(named[word]), f.name) {
				continue
			}
			e := s.event
			f.set(&e)
			if line, code := script.PrintEvent(e, 3); line != "" || code != api.ErrEvent {
				t.Errorf("S3: %.60s with %s: %.60q, %d, want ErrEvent", s.line, f.name, line, code)
			}
		}
	}
}

func TestUnwritableEvents(t *testing.T) {
	long := strings.Repeat("a", 17)
	for _, e := range []api.Event{
		{Kind: -1}, {Kind: 19}, {Kind: 1 << 40}, {A: 1}, {N: -1},
		{Kind: api.EvTick, A: 3}, {Kind: api.EvTick, A: -1}, {Kind: api.EvLeave, A: 3}, {Kind: api.EvCrash, A: 3}, {Kind: api.EvRestart, A: -1},
		{Kind: api.EvSend, A: 3}, {Kind: api.EvSend, A: -1}, {Kind: api.EvSend, Body: make([]byte, api.MaxBlob+1)},
		{Kind: api.EvDo}, {Kind: api.EvDo, A: 3, Cmd: command(1, "k", "", "")}, {Kind: api.EvDo, Cmd: command(10, "k", "", "")}, {Kind: api.EvDo, Cmd: command(-1, "k", "", "")},
		{Kind: api.EvDo, Cmd: command(1, long, "", "")}, {Kind: api.EvDo, Cmd: command(1, "", long, "")}, {Kind: api.EvDo, Cmd: command(1, "", "", long)},
		{Kind: api.EvDo, Cmd: api.Command{Op: 1, Client: 1}}, {Kind: api.EvDo, Cmd: api.Command{Op: 1, Inc: 1}}, {Kind: api.EvDo, Cmd: api.Command{Op: 1, Req: -1}},
		{Kind: api.EvTear, N: -1}, {Kind: api.EvTear, N: big + 1}, {Kind: api.EvTear, A: 3},
		{Kind: api.EvCut}, {Kind: api.EvCut, A: 1, B: 1}, {Kind: api.EvCut, A: 3}, {Kind: api.EvCut, B: 3}, {Kind: api.EvCut, A: -1}, {Kind: api.EvCut, A: 1, B: -1}, {Kind: api.EvHeal, A: 2, B: 2}, {Kind: api.EvHeal, B: 3},
		{Kind: api.EvDelay, B: 1}, {Kind: api.EvDelay, B: 1, N: 17}, {Kind: api.EvDelay, N: 1}, {Kind: api.EvDelay, B: 1, N: -1},
		{Kind: api.EvSplit}, {Kind: api.EvSplit, Sides: []int{0, 0}}, {Kind: api.EvSplit, Sides: []int{0, 0, 0, 0}}, {Kind: api.EvSplit, Sides: []int{0, 0, 16}}, {Kind: api.EvSplit, Sides: []int{-1, 0, 0}},
		{Kind: api.EvDrop, A: -1}, {Kind: api.EvDrop, A: big + 1}, {Kind: api.EvDup, A: big + 1}, {Kind: api.EvNow, A: -1},
		{Kind: api.EvHold}, {Kind: api.EvHold, N: 17}, {Kind: api.EvHold, A: -1, N: 1}, {Kind: api.EvFlip, A: -1}, {Kind: api.EvFlip, N: -1}, {Kind: api.EvFlip, N: big + 1},
		{Kind: api.EvInject}, {Kind: api.EvInject, A: 3}, {Kind: api.EvInject, B: 3}, {Kind: api.EvInject, A: 2, B: 2}, {Kind: api.EvInject, B: 1, Body: make([]byte, api.MaxPacket+1)},
	} {
		if line, code := script.PrintEvent(e, 3); line != "" || code != api.ErrEvent {
			t.Errorf("S3: PrintEvent(%.200v) = %.60q, %d, want ErrEvent", e, line, code)
		}
	}
}

func TestOtherForms(t *testing.T) {
	for _, c := range [][2]string{
		{`send 0 "\x61\x20b"`, `send 0 "a b"`}, {`send 0 "\x22\x5c"`, `send 0 "\"\\"`}, {`do 0 get "k" "" ""`, `do 0 get "k"`}, {`do 0 get "k" "v" ""`, `do 0 get "k" "v"`}, {`do 0 set "k" "" "o"`, `do 0 set "k" "" "o"`}, {`do 0 end "" "2"`, `do 0 end "" "2"`}, {"\tinject  1\t0 \"\\x51\" ", `inject 1 0 "Q"`}, {"nothing", "noop"},
	} {
		if line, e := script.PrintEvent(script.ParseEvent(c[0], 3), 3); line != c[1] || e != api.OK {
			t.Errorf("S3: of %q: %q, %d, want %q", c[0], line, e, c[1])
		}
	}
}

func TestWildEvents(t *testing.T) {
	r := rand.New(rand.NewSource(2))
	for range 20000 {
		nodes := 2 + r.Intn(15)
		want := wildEvent(r, nodes)
		line, e := script.PrintEvent(want, nodes)
		if e != api.OK {
			t.Fatalf("S3: PrintEvent(%v, %d) = %d", want, nodes, e)
		}
		got := script.ParseEvent(line, nodes)
		wantEvent(t, "S3", line, nodes, got, want)
		odd := spoil(r, line)
		got = script.ParseEvent(odd, nodes)
		back, e := script.PrintEvent(got, nodes)
		if e != api.OK {
			t.Fatalf("S3: what ParseEvent(%q, %d) answers, %v, is not writable: %d", odd, nodes, got, e)
		}
		wantEvent(t, "S3", back, nodes, script.ParseEvent(back, nodes), got)
		if strings.Contains(odd, "\n") && got.Kind != api.EvNoop {
			t.Fatalf("S2: a line with a line end in it, %q: %v", odd, got)
		}
	}
}

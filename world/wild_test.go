package world_test

import (
	"math/rand"
	"testing"

	"quorate/api"
	"quorate/script"
)

// kindsSeen counts the marks of a trace by their kinds.
func kindsSeen(seen map[string]int, l []api.Mark) {
	for _, m := range l {
		seen[[]string{"", "boots", "crashes", "halts", "sends", "refusals", "blocks", "installs", "deliveries", "safes", "adopts", "commands", "entries", "answers", "full", "rounds", "leaves"}[m.Kind]]++
	}
}

func wantSeen(t *testing.T, seen, least map[string]int) {
	t.Helper()
	for what, n := range least {
		if seen[what] < n {
			t.Errorf("%d %s, want %d: the test is too weak", seen[what], what, n)
		}
	}
}

// wantModel: the trace is that of the chapter's words.
func wantModel(t *testing.T, s api.Script, seen map[string]int) []api.Mark {
	t.Helper()
	m := modelOf(t, s.Config)
	want := m.play(s.Events)
	got := played(t, s)
	wantSame(t, "P16.3 to P16.7", got, want)
	kindsSeen(seen, got)
	seen["steps"] += m.steps
	return got
}

// wantTexts: the script's text has the trace's text.
func wantTexts(t *testing.T, s api.Script, trace []api.Mark, seen map[string]int) {
	t.Helper()
	text, e := script.Print(s)
	if e == api.ErrText || e == api.ErrEvent {
		return
	}
	want, e := script.PrintTrace(trace)
	if e != api.OK {
		t.Fatalf("P16.2: the trace cannot be printed: error %d", e)
	}
	if got := run(t, text); got != want {
		t.Fatal("P16.2: Run tells another trace than Play")
	}
	seen["texts"]++
}

// TestAsTheModel: P16.3 to P16.7 in stories without flips, and with nothing put in.
func TestAsTheModel(t *testing.T) {
	seen := map[string]int{}
	for seed := range int64(60) {
		_, s := drawn(seed, 12)
		if seed%5 == 0 {
			s.Config.Room = 1 + int(seed)
		}
		wantTexts(t, s, wantModel(t, s, seen), seen)
	}
	wantSeen(t, seen, map[string]int{"boots": 300, "crashes": 200, "refusals": 1000, "blocks": 300, "deliveries": 2000, "adopts": 200, "entries": 1000, "answers": 300, "full": 1000, "rounds": 5000, "leaves": 20, "texts": 20, "steps": 50000})
}

// TestForged: the same with flips and with packets that are put in; P15: what comes of them is never a panic.
func TestForged(t *testing.T) {
	seen := map[string]int{}
	for seed := range int64(50) {
		r, s := drawn(100+seed, 10)
		if seed%4 == 0 {
			s.Config.Room = 20 + int(seed)
		}
		if seed%4 == 1 {
			s.Config.Floor = api.MaxCount - r.Intn(6)
		}
		l := wantModel(t, forged(t, r, s), seen)
		for _, m := range of(l, api.MarkHalt) {
			if m.N != 1 {
				t.Fatalf("P15: %+v", m)
			}
		}
	}
	wantSeen(t, seen, map[string]int{"boots": 200, "halts": 20, "deliveries": 1000, "adopts": 100, "entries": 200, "full": 100, "steps": 40000})
}

// TestStrange: P16.1 and rule 2: events that no text tells, among others.
func TestStrange(t *testing.T) {
	seen := map[string]int{}
	for seed := range int64(40) {
		r, s := drawn(200+seed, 8)
		for i, e := range s.Events {
			if r.Intn(2) == 0 {
				s.Events[i] = strange(r, e)
			}
		}
		wantModel(t, s, seen)
	}
	wantSeen(t, seen, map[string]int{"deliveries": 200, "refusals": 500, "steps": 10000})
}

// TestMany: sixteen nodes.
func TestMany(t *testing.T) {
	seen := map[string]int{}
	for seed := range int64(2) {
		r := rand.New(rand.NewSource(300 + seed))
		c := with(config(api.MaxNodes), func(c *api.Config) { c.Room = api.MaxRoom })
		wantModel(t, api.Script{Config: c, Events: live(r, c.Nodes, 6)}, seen)
	}
	wantSeen(t, seen, map[string]int{"installs": 100, "deliveries": 500, "steps": 20000})
}

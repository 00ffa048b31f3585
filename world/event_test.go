package world_test

import (
	"slices"
	"strings"
	"testing"

	"quorate/api"
	"quorate/world"
)

// TestPlayErrors: P16.1.
func TestPlayErrors(t *testing.T) {
	bad := []api.Config{{}}
	for _, change := range []func(c *api.Config, n int){
		func(c *api.Config, n int) { c.Nodes = n }, func(c *api.Config, n int) { c.Window = n }, func(c *api.Config, n int) { c.Base = n },
		func(c *api.Config, n int) { c.Step = n }, func(c *api.Config, n int) { c.Cap = n }, func(c *api.Config, n int) { c.Room = n },
		func(c *api.Config, n int) { c.Floor = n }, func(c *api.Config, n int) { c.Votes[1] = n },
	} {
		for _, n := range far() {
			bad = append(bad, with(config(3), func(c *api.Config) { change(c, n) }))
		}
	}
	for _, votes := range [][]int{nil, {1, 1}, {1, 1, 1, 1}, {0, 0, 0}, {1, 10, 1}} {
		bad = append(bad, with(config(3), func(c *api.Config) { c.Votes = votes }))
	}
	for _, c := range bad {
		for _, events := range [][]api.Event{nil, make([]api.Event, api.MaxEvents+1)} {
			if l, e := world.Play(api.Script{Config: c, Events: events}); l != nil || e != api.ErrConfig {
				t.Errorf("P16.1: Play(%+v, %d events): %d marks, error %d", c, len(events), len(l), e)
			}
		}
	}
	for _, n := range []int{1, 2, 100000} {
		if l, e := world.Play(api.Script{Config: config(3), Events: make([]api.Event, api.MaxEvents+n)}); l != nil || e != api.ErrMany {
			t.Errorf("P16.1: Play of %d events too many: %d marks, error %d", n, len(l), e)
		}
	}
	s := api.Script{Config: config(1), Events: make([]api.Event, api.MaxEvents)}
	s.Events[api.MaxEvents-1].Kind = api.EvRound
	if l := played(t, s); l[1].Kind != api.MarkRound || l[1].At != api.MaxEvents {
		t.Errorf("P16.1 and 16.2: behind 3999 events that do nothing: %+v", l[1])
	}
}

// TestRunErrors: P16.2.
func TestRunErrors(t *testing.T) {
	for _, x := range []struct {
		text string
		want api.Errno
	}{
		{"", api.ErrHeader}, {"bla\n", api.ErrHeader}, {strings.Replace(one, "votes", "vote", 1), api.ErrHeader}, {head, api.ErrHeader},
		{strings.Replace(one, "cap 8", "cap 65", 1), api.ErrConfig}, {strings.Replace(one, "votes 1", "votes 1 1", 1), api.ErrConfig},
		{one + strings.Repeat("\n", api.MaxText), api.ErrText}, {one + rounds(api.MaxEvents+1), api.ErrMany},
	} {
		if got, e := world.Run(x.text); got != "" || e != x.want {
			t.Errorf("P16.2: Run(%.80q): %.80q, error %d, want error %d", x.text, got, e, x.want)
		}
	}
	want := head + boot + first + "3 round 0 0 n=2\n"
	got := run(t, "# a remark\n\n"+strings.ReplaceAll(one, " ", "  ")+"\tround\n# one more\nbla\n round")
	if !strings.HasPrefix(got, want) {
		t.Errorf("P16.2: a lenient text: %s, want %s..", got, want)
	}
}

// TestNumbers: 16.2: every event has a number.
func TestNumbers(t *testing.T) {
	wantRun(t, "16.2", one+lines("noop", "tick 7", "round", "bla", "round"), head+boot+
		lines("3 round 0 0 n=1", "3 install 0 1 id=1/0/1/1 members=0/1/1 trans=0", "3 send 0 1 id=1/0/1/1 seq=1 body="+state,
			"5 round 0 0 n=2", "5 deliver 0 1 id=1/0/1/1 seq=1 pos=1 body="+state, "5 adopt 0 1 id=1/0/1/1", "5 safe 0 1 id=1/0/1/1 pos=1"))
}

// TestSteps: P16.5: ticks, sends, commands and leaving.
func TestSteps(t *testing.T) {
	alone := strings.TrimPrefix(first, "1 round 0 0 n=1\n")
	wantRun(t, "P16.5: tick", one+"tick 0\n", head+boot+alone)
	wantRun(t, "P16.5: send", one+lines("tick 0", `send 0 "x"`, `send 0 ""`), head+boot+alone+lines(`2 send 0 1 id=1/0/1/1 seq=2 body="\x00x"`, `3 send 0 1 id=1/0/1/1 seq=3 body="\x00"`))
	wantRun(t, "P16.5: leave", one+lines("tick 0", "leave 0", "leave 0"), head+boot+alone+lines("2 leave 0 1", "3 leave 0 1"))
	wantRun(t, "P16.5: do", one+lines("tick 0", "tick 0", `do 0 set "k" "v"`, `do 0 set "k" "w"`),
		head+boot+alone+strings.TrimPrefix(second, "2 round 0 0 n=2\n")+third+lines(`4 refuse 0 1 cmd=0/0/0/1/"k"/"w"/"" err=141`))
	long := api.Script{Config: config(1), Events: []api.Event{{Kind: api.EvTick}, {Kind: api.EvSend, Body: make([]byte, api.MaxBlob)}}}
	if l := played(t, long); !sameMark(l[len(l)-1], api.Mark{At: 2, Kind: api.MarkRefuse, Inc: 1, Err: api.ErrBlob}) {
		t.Errorf("P16.5: a blob that is too long: %+v", l[len(l)-1])
	}
}

// TestDown: P16.5: what is asked of nodes that are down, or that there are not.
func TestDown(t *testing.T) {
	for _, a := range append(far(), 1, 2, 16) {
		var l []api.Event
		for kind := api.EvTick; kind <= api.EvLeave; kind++ {
			l = append(l, api.Event{Kind: kind, A: a, B: a, N: 1, Body: []byte("x"), Cmd: api.Command{Op: api.OpGet, Key: "k"}, Sides: []int{a}})
		}
		wantSame(t, "P16.1 and P16.5", played(t, api.Script{Config: config(1), Events: l}), []api.Mark{{Kind: api.MarkBoot, Inc: 1}})
	}
	wantRun(t, "P16.5: a node that is down", one+lines("crash 0", "round", "tick 0", `send 0 "x"`, `do 0 get "k"`, "leave 0", "tear 0 1", "crash 0", "round"),
		head+boot+lines("1 crash 0 1", "2 round 0 0 n=1", "9 round 0 0 n=2"))
	wantRun(t, "P16.5: restart", one+lines("restart 0", "crash 0", "restart 0", "restart 0", "crash 0", "restart 0"),
		head+boot+lines("2 crash 0 1", "3 boot 0 2", "5 crash 0 2", "6 boot 0 3"))
}

// TestTear: P16.5: so many units reach the disk, none if the number is below 0, and then it is no event at all.
func TestTear(t *testing.T) {
	asked := scriptOf(config(1), "round\nround\ndo 0 set \"k\" \"v\"\n")
	done := 0
	for units := range 60 {
		got := played(t, changed(asked, asked.Events, []api.Event{{Kind: api.EvTear, N: units}, {Kind: api.EvRestart}}))
		if len(of(got, api.MarkReply)) > 0 || len(of(got, api.MarkCrash)) != 1 || len(of(got, api.MarkDeliver)) != 1 {
			t.Fatalf("P16.5: of a torn step something was told: %+v", got)
		}
		applied := len(of(got, api.MarkApply))
		if applied < done {
			t.Fatalf("P16.5: with %d units less reaches the disk than with one less", units)
		}
		if applied > done && units < 20 {
			t.Fatalf("P16.5: an entry and that it is safe are on the disk behind %d units", units)
		}
		done = applied
	}
	if done != 1 {
		t.Error("P16.5: with all units the entry is not on the disk")
	}
	for _, n := range far() {
		s := changed(asked, asked.Events, []api.Event{{Kind: api.EvTear, N: n}, {Kind: api.EvRound}})
		if crashed := has(played(t, s), api.MarkCrash); crashed != (n >= 0) {
			t.Errorf("P16.5: tear with %d: down %v", n, crashed)
		}
	}
}

// TestHalted: P16.6.
func TestHalted(t *testing.T) {
	const id = "4611686018427387904"
	spent := strings.Replace(two, "floor 0", "floor 4611686018427387903", 1)
	got := run(t, spent+rounds(4)+lines("tick 0", `send 0 "x"`, `do 0 get "k"`, "leave 0", "round", "tear 1 5", "restart 1", "crash 0", "restart 0", "restart 1", "round"))
	_, got, _ = strings.Cut(got, "3 round 0 0 n=3\n")
	want := lines("3 halt 0 1 n=1", "3 halt 1 1 n=1", "4 round 0 0 n=4", "9 round 0 0 n=5", "10 crash 1 1", "12 crash 0 1", "13 boot 0 2", "15 round 0 0 n=6",
		"15 install 0 2 id="+id+"/0/2/"+id+" members=0/2/"+id+" trans=0")
	if got != want {
		t.Errorf("P16.6 and P16.3:\n%s\nwant\n%s", got, want)
	}
}

// TestFull: P16.4: what finds no room is told behind the step's marks, packet by packet; what finds no open path is not told.
func TestFull(t *testing.T) {
	c := with(config(3), func(c *api.Config) { c.Room = 3 })
	l := played(t, scriptOf(c, "round\n"))
	var got [][4]int
	for _, m := range l {
		if m.Kind == api.MarkFull || m.Kind == api.MarkInstall {
			got = append(got, [4]int{m.Kind, m.Node, m.Inc, m.N})
		}
	}
	want := [][4]int{{api.MarkInstall, 0, 1, 0}, {api.MarkInstall, 1, 1, 0}, {api.MarkFull, 1, 1, 2}, {api.MarkInstall, 2, 1, 0}, {api.MarkFull, 2, 1, 0}, {api.MarkFull, 2, 1, 1}}
	if !slices.Equal(got, want) {
		t.Errorf("P16.4: %v, want %v", got, want)
	}
	if l := played(t, scriptOf(c, "cut 0 1\ncut 0 2\ncut 1 0\nround\n")); len(of(l, api.MarkFull)) != 0 {
		t.Errorf("P16.4: %+v", of(l, api.MarkFull))
	}
}

// TestNow: P16.5: packets that arrive at once make the view of both come a round earlier.
func TestNow(t *testing.T) {
	view := func(text string) int {
		t.Helper()
		clock := 0
		for _, m := range played(t, scriptOf(config(2), text)) {
			if m.Kind == api.MarkRound {
				clock = m.N
			}
			if m.Kind == api.MarkInstall && len(m.Members) == 2 {
				return clock
			}
		}
		return 0
	}
	slow := view(rounds(8))
	fast := view(strings.Repeat("round\nnow 0\nnow 0\nnow 0\nnow 0\nnow 0\nnow 0\n", 8))
	if slow == 0 || fast == 0 || fast >= slow {
		t.Errorf("P16.5: now: in round %d, without it in round %d", fast, slow)
	}
	if late := view("delay 0 1 3\ndelay 1 0 3\n" + rounds(40)); late <= slow {
		t.Errorf("P16.5: delay: in round %d, without it in round %d", late, slow)
	}
	if never := view("split 0 1\n" + rounds(40)); never != 0 {
		t.Errorf("P16.5: split: in round %d", never)
	}
}

package world_test

import (
	"bytes"
	"fmt"
	"math/rand"
	"runtime"
	"slices"
	"strings"
	"sync"
	"testing"
	"time"
	"unsafe"

	"quorate/api"
	"quorate/world"
)

// roomy is a list with spare room, filled with something.
func roomy[T any](l []T, with T) []T {
	return append(slices.Clone(l), with, with, with)[:len(l)]
}

// roomyScript is a script all of whose lists have spare room.
func roomyScript(s api.Script) api.Script {
	s.Config.Votes = roomy(s.Config.Votes, 7)
	s.Events = roomy(s.Events, api.Event{Kind: 77})
	for i := range s.Events {
		s.Events[i].Body = roomy(s.Events[i].Body, 'Y')
		s.Events[i].Sides = roomy(s.Events[i].Sides, 7)
	}
	return s
}

// textOf tells all of a script, its spare room too.
func textOf(s api.Script) string {
	var b strings.Builder
	fmt.Fprint(&b, s.Config, s.Config.Votes[:cap(s.Config.Votes)])
	for _, e := range s.Events[:cap(s.Events)] {
		fmt.Fprint(&b, e, e.Body[:cap(e.Body)], e.Sides[:cap(e.Sides)])
	}
	return b.String()
}

// scribble fills a list, its spare room too, with something.
func scribble[T any](l []T, with T) {
	l = l[:cap(l)]
	for i := range l {
		l[i] = with
	}
}

// holds tells whether a list and its spare room still hold what they were filled with.
func holds[T comparable](l []T, with T) bool {
	l = l[:cap(l)]
	return !slices.ContainsFunc(l, func(x T) bool { return x != with })
}

// storied is a script with much in it.
func storied(t *testing.T) api.Script {
	t.Helper()
	c := with(config(4), func(c *api.Config) { c.Room = 150 })
	return api.Script{Config: c, Events: live(rand.New(rand.NewSource(5)), c.Nodes, 40)}
}

// TestSharesNothing: P2 and rule 5.
func TestSharesNothing(t *testing.T) {
	s := roomyScript(storied(t))
	given := textOf(s)
	l := played(t, s)
	if textOf(s) != given {
		t.Fatal("rule 5: the script that was handed in is changed")
	}
	want := fmt.Sprint(l)
	again := played(t, s)
	lists := 0
	for k, m := range slices.Concat(l, again) {
		scribble(m.Body, byte(k))
		scribble(m.Members, api.Member{Pid: k})
		scribble(m.Trans, k)
		lists += min(1, len(m.Body)) + min(1, len(m.Members)) + min(1, len(m.Trans))
	}
	for k, m := range slices.Concat(l, again) {
		if !holds(m.Body, byte(k)) || !holds(m.Members, api.Member{Pid: k}) || !holds(m.Trans, k) {
			t.Fatalf("rule 5: mark %d shares memory with another one", k)
		}
	}
	if textOf(s) != given {
		t.Fatal("rule 5: the trace shares memory with the script")
	}
	scribble(l, api.Mark{Kind: 77})
	third := played(t, s)
	if fmt.Sprint(third) != want {
		t.Fatal("rules 5 and 6: with the first trace written over, the same script has another one")
	}
	for _, e := range s.Events {
		scribble(e.Body, 'X')
		scribble(e.Sides, 5)
	}
	scribble(s.Config.Votes, 9)
	scribble(s.Events, api.Event{})
	if fmt.Sprint(third) != want {
		t.Fatal("rule 5: the trace shares memory with the script")
	}
	if lists < 1000 {
		t.Errorf("%d lists: the test is too weak", lists)
	}
}

// TestTexts: rule 5: what a trace tells of commands is not cut out of the script's own texts.
func TestTexts(t *testing.T) {
	long := strings.Repeat("k", 1000)
	s := scriptOf(config(1), "round\nround\n")
	s.Events = append(s.Events, api.Event{Kind: api.EvDo, Cmd: api.Command{Op: api.OpSet, Key: long[10:11], Val: long[20:22]}},
		api.Event{Kind: api.EvDo, Cmd: api.Command{Op: api.OpCas, Key: long[10:18], Val: long[20:28], Old: long[30:38]}}, api.Event{Kind: api.EvRound})
	from := uintptr(unsafe.Pointer(unsafe.StringData(long)))
	texts := 0
	for _, m := range played(t, s) {
		for _, x := range []string{m.Cmd.Key, m.Cmd.Val, m.Cmd.Old} {
			at := uintptr(unsafe.Pointer(unsafe.StringData(x)))
			if x != "" && at >= from && at < from+1000 {
				t.Fatalf("rule 5: a text of %+v is the script's own", m)
			}
			texts += min(1, len(x))
		}
	}
	runtime.KeepAlive(long)
	if texts < 8 {
		t.Errorf("%d texts: the test is too weak", texts)
	}
}

// TestEmpty: rule 5: nil and an empty list are the same where they are handed in.
func TestEmpty(t *testing.T) {
	with := scriptOf(config(1), "round\nsend 0 \"\"\n")
	with.Events[1].Body = []byte{}
	with.Events[0].Sides = []int{}
	without := scriptOf(config(1), "round\n")
	without.Events = append(without.Events, api.Event{Kind: api.EvSend})
	wantSame(t, "rule 5", played(t, with), played(t, without))
	wantSame(t, "rule 5", played(t, api.Script{Config: config(1), Events: []api.Event{}}), played(t, api.Script{Config: config(1)}))
}

// TestAlike: rule 6 and the way of the world: the trace does not hang on how the goroutines run, nor on other plays at the same time; and none of them is left.
func TestAlike(t *testing.T) {
	before := runtime.NumGoroutine()
	s := storied(t)
	want := played(t, s)
	for _, cores := range []int{1, 2, 16} {
		old := runtime.GOMAXPROCS(cores)
		traces := make([][]api.Mark, 6)
		var all sync.WaitGroup
		for i := range traces {
			all.Go(func() { traces[i], _ = world.Play(s) })
		}
		all.Wait()
		runtime.GOMAXPROCS(old)
		for _, l := range traces {
			wantSame(t, "rule 6", l, want)
		}
	}
	for range 200 {
		if runtime.NumGoroutine() <= before {
			return
		}
		time.Sleep(5 * time.Millisecond)
	}
	t.Errorf("P1: %d goroutines are left", runtime.NumGoroutine()-before)
}

// TestKeepsNothing: rule 8: nothing is kept from call to call.
func TestKeepsNothing(t *testing.T) {
	heap := func() uint64 {
		var m runtime.MemStats
		runtime.GC()
		runtime.GC()
		runtime.ReadMemStats(&m)
		return m.HeapAlloc
	}
	s := storied(t)
	played(t, s)
	before := heap()
	for range 20 {
		played(t, s)
	}
	if after := heap(); after > before+200000 {
		t.Errorf("rule 8: %d bytes are kept of twenty plays", after-before)
	}
}

// TestRunKeepsText: rule 5: the trace's text is new.
func TestRunKeepsText(t *testing.T) {
	text := []byte(asking + "round\n")
	shared := unsafe.String(&text[0], len(text))
	got := run(t, shared)
	want := strings.Clone(got)
	scribble(text, 'X')
	if got != want || bytes.Contains([]byte(got), []byte("XXX")) {
		t.Error("rule 5: the trace's text is cut out of the script's")
	}
}

package world_test

import (
	"strings"
	"testing"

	"quorate/api"
	"quorate/script"
	"quorate/world"
)

// TestReadme: what README.md shows of this package.
func TestReadme(t *testing.T) {
	text := "quorate 1\n" +
		"nodes 1 window 4 base 2 step 1 cap 8 room 100 floor 0\n" +
		"votes 1\n" +
		"round\n" +
		"round\n" +
		"do 0 set \"k\" \"v\"\n" +
		"round\n"
	trace, e := world.Run(text)
	if e != api.OK || !strings.HasSuffix(trace, "\n4 reply 0 1 cmd=0/1/1/1/\"k\"/\"v\"/\"\" result=1/\"\"/0\n") {
		t.Errorf("README: %s, error %d", trace, e)
	}
	s, _, _ := script.Parse(text)
	s.Events = append(s.Events, api.Event{Kind: api.EvTear, A: 0, N: 0}, api.Event{Kind: api.EvRestart, A: 0})
	marks, e := world.Play(s)
	last := marks[max(0, len(marks)-3):]
	if e != api.OK || len(last) != 3 || last[0].Kind != api.MarkCrash || last[1].Kind != api.MarkBoot || last[2].Kind != api.MarkApply || last[2].At != 6 || last[2].Inc != 2 {
		t.Errorf("README: %+v, error %d", last, e)
	}
}

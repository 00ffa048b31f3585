package audit_test

import (
	"testing"

	"quorate/api"
	"quorate/audit"
	"quorate/script"
	"quorate/world"
)

// TestReadme: what README.md shows of this package.
func TestReadme(t *testing.T) {
	text := "quorate 1\n" +
		"nodes 1 window 4 base 2 step 1 cap 8 room 100 floor 0\n" +
		"votes 1\n" +
		"round\n" +
		"round\n" +
		"do 0 set \"k\" \"v\"\n" +
		"round\n"
	trace, e := world.Run(text)
	v, e := audit.Text(trace, []int{1})
	if v != (api.Verdict{}) || e != api.OK {
		t.Errorf("README: %v, error %d", v, e)
	}
	marks, _, e := script.ParseTrace(trace)
	if l := audit.History(marks); e != api.OK || len(l) != 1 || l[0].Op != api.OpSet {
		t.Errorf("README: %v, error %d", l, e)
	}
	marks[len(marks)-1].Result.Val = "w"
	if v = audit.Group(marks); v != (api.Verdict{}) {
		t.Errorf("README: %v", v)
	}
	v, e = audit.Service(marks, []int{1})
	if v != (api.Verdict{Rule: 28, At: 14}) || e != api.OK {
		t.Errorf("README: %v of %d marks, error %d", v, len(marks), e)
	}
}

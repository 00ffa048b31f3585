package link_test

import (
	"testing"

	"quorate/api"
)

// TestExamples: section 4.5, line by line.
func TestExamples(t *testing.T) {
	a, b := joined(t, 2, 0, 2, 3, 1), joined(t, 2, 1, 2, 3, 0)

	push(t, a, 1, "a", "b", "c")
	if e := a.Push(1, []byte("d")); e != api.ErrFull {
		t.Fatalf("example 1: Push: error %d, want ErrFull", e)
	}
	wantNumbers(t, a, 1, numbers{sent: 3, waiting: 3, room: 0})
	wantFrames(t, a, 1, frame(tagT, 1, "a"), frame(tagT, 2, "b"))

	take(t, b, 0, 2, "b", "")
	wantNumbers(t, b, 0, numbers{room: 3})
	wantOwed(t, b, 0, api.Ack{Tag: tagT, Upto: 0}, true)
	wantOwed(t, b, 0, api.Ack{}, false)
	if l, e := b.Take(0, frame(tagT, 3, "c")); l != nil || e != api.ErrFar {
		t.Fatalf("example 2: Take of 3 = %v, error %d, want ErrFar", l, e)
	}
	take(t, b, 0, 1, "a", "a b")
	wantNumbers(t, b, 0, numbers{room: 3, got: 2})
	wantOwed(t, b, 0, api.Ack{Tag: tagT, Upto: 2}, true)

	if e := a.Acked(1, api.Ack{Tag: tagT, Upto: 3}); e != api.ErrFar {
		t.Fatalf("example 3: Acked 3: error %d, want ErrFar", e)
	}
	acked(t, a, 1, 2)
	wantNumbers(t, a, 1, numbers{sent: 3, waiting: 1, room: 2})
	wantFrames(t, a, 1, frame(tagT, 3, "c"))
	acked(t, a, 1, 1)
	wantNumbers(t, a, 1, numbers{sent: 3, waiting: 1, room: 2})
	push(t, a, 1, "d")
	wantNumbers(t, a, 1, numbers{sent: 4, waiting: 2, room: 1})

	take(t, b, 0, 1, "x", "")
	wantOwed(t, b, 0, api.Ack{Tag: tagT, Upto: 2}, true)

	reset(t, b, tagU, 0)
	if l, e := b.Take(0, frame(tagT, 3, "c")); l != nil || e != api.ErrTag || b.Got(0) != 0 {
		t.Fatalf("example 5: Take = %v, error %d, Got %d, want ErrTag, 0", l, e, b.Got(0))
	}
	for _, p := range []int{1, 2} {
		for _, f := range []api.Frame{frame(tagU, 1, "a"), frame(tagT, 3, "c"), {}} {
			if l, e := b.Take(p, f); l != nil || e != api.ErrPeer {
				t.Fatalf("example 5: Take from %d = %v, error %d, want ErrPeer", p, l, e)
			}
		}
	}
}

// TestReadme: what README.md shows of this package.
func TestReadme(t *testing.T) {
	tag := api.ViewID{Epoch: 1, Lead: 0, Inc: 1, Cid: 1}
	a, b := made(t, 2, 0, 2, 3), made(t, 2, 1, 2, 3)
	reset(t, a, tag, 1)
	reset(t, b, tag, 0)
	push(t, a, 1, "x", "y")
	frames := a.Frames(1)
	if l, e := b.Take(0, frames[1]); len(l) != 0 || e != api.OK {
		t.Errorf("Take = %q, error %d, want nothing yet", l, e)
	}
	if l, e := b.Take(0, frames[0]); words(l) != "x y" || e != api.OK {
		t.Errorf("Take = %q, error %d, want x, y", l, e)
	}
	ack, owed := b.Owed(0)
	if ack != (api.Ack{Tag: tag, Upto: 2}) || !owed {
		t.Errorf("Owed = %v, %v", ack, owed)
	}
	if e := a.Acked(1, ack); e != api.OK || len(a.Frames(1)) != 0 {
		t.Errorf("Acked: error %d, Frames %v", e, a.Frames(1))
	}
}

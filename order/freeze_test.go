package order_test

import (
	"math"
	"math/rand"
	"slices"
	"testing"

	"quorate/api"
)

// TestFreeze: for good, a second time too; all that is told stays but Free.
func TestFreeze(t *testing.T) {
	for _, b := range busyOnes()[:2] {
		o := b.make(t)
		if o.Frozen() {
			t.Fatal("O9: frozen ahead of Freeze")
		}
		want := look(o)
		want.frozen, want.free = true, 0
		for range 3 {
			o.Freeze()
			if got := look(o); !sameSeen(got, want) {
				t.Fatalf("O9: frozen, it tells %v, want %v", got, want)
			}
		}
		r := rand.New(rand.NewSource(3))
		for range 400 {
			if got := wildCall(r, view(0, 2, 5), b.self, want)(o); len(got.items)+len(got.msgs)+len(got.data.Body) > 0 {
				t.Fatalf("O9: frozen, it answers %v", got)
			}
			if got := look(o); !sameSeen(got, want) {
				t.Fatalf("O9, O10: frozen, it tells %v, want %v", got, want)
			}
		}
	}
}

// TestContentNodes: how many nodes are asked for says how long Have is, and nothing else.
func TestContentNodes(t *testing.T) {
	all := map[int][]int{0: {2, 0, 2, 0, 0, 1}, 2: {1, 0, 2}}
	for _, b := range busyOnes() {
		o := b.make(t)
		want := append(slices.Clone(all[b.self]), make([]int, api.MaxNodes)...)
		base := o.Content(api.MaxNodes)
		for _, nodes := range append(far(), 0, 1, 2, 3, 5, 6, 7, 15, 16, 17, 100) {
			n := min(max(nodes, 0), api.MaxNodes)
			if got := o.Content(nodes); !sameFlush(got, api.Flush{Prev: viewID, Base: base.Base, Slots: base.Slots, Have: want[:n]}) {
				t.Fatalf("O10: Content(%d) = %v, want Have %v", nodes, got, want[:n])
			}
		}
	}
}

// TestContentHave: what was taken counts, dropped or not.
func TestContentHave(t *testing.T) {
	o := atFirst(t)
	wantContent(t, o, 1, []api.Slot{{Sender: 5, Seq: 1}, {Sender: 0, Seq: 1}}, 2, 0, 2, 0, 0, 1)
	wantMessages(t, o, message(0, 1, 0, "c"), message(0, 2, 1, ""), message(2, 2, 1, "d"), message(5, 1, 0, "b"))
	wantDeliver(t, o, 9, "3 0/1 c")
	wantHear(t, o, 5, stable(3, 0), api.OK)
	wantHear(t, o, 2, stable(3, 0), api.OK)
	wantContent(t, o, 3, nil, 2, 0, 2, 0, 0, 1)
	wantMessages(t, o, message(0, 2, 1, ""), message(2, 2, 1, "d"))
	wantAssign(t, o, math.MaxInt, slot(4, 3, 2, 2), slot(5, 3, 0, 2))
	wantContent(t, o, 3, []api.Slot{{Sender: 2, Seq: 2}, {Sender: 0, Seq: 2}}, 2, 0, 2, 0, 0, 1)
}

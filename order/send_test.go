package order_test

import (
	"strings"
	"testing"

	"quorate/api"
	"quorate/order"
)

// TestSendBodies: each length that may be comes back as it was, and is held so.
func TestSendBodies(t *testing.T) {
	for _, n := range []int{0, 1, 2, 255, api.MaxChunk} {
		o := made(t, view(3, 7), 7, 1)
		body := strings.Repeat("q", n)
		wantSend(t, o, body, api.Data{Sender: 7, Seq: 1})
		wantMessages(t, o, message(7, 1, 0, body))
		wantStand(t, o, stand{held: 1, sent: 1})
	}
}

// TestSendRefused: the errors in their order; with each of them nothing has changed.
func TestSendRefused(t *testing.T) {
	long := make([]byte, api.MaxChunk+1)
	full := func(o *order.Order) {
		for range o.Free() {
			if _, e := o.Send(nil); e != api.OK {
				t.Fatalf("O2, O3: Send: error %d while Free is not 0", e)
			}
		}
	}
	wantUnchanged(t, "O2: a body that is too long", func(o *order.Order) {
		wantNoSend(t, o, long, api.ErrArg)
		wantNoSend(t, o, make([]byte, 100000), api.ErrArg)
	})
	for _, b := range busyOnes() {
		o, twin := b.make(t), b.make(t)
		full(o)
		full(twin)
		wantNoSend(t, o, long, api.ErrArg)
		if !o.Frozen() {
			wantNoSend(t, o, []byte("x"), api.ErrWindow)
			wantNoSend(t, o, nil, api.ErrWindow)
		}
		wantSame(t, "O2: a refused Send", view(0, 2, 5), b.self, o, twin)
	}
	for _, b := range busyOnes() {
		o, twin := b.make(t), b.make(t)
		full(o)
		full(twin)
		o.Freeze()
		twin.Freeze()
		wantNoSend(t, o, long, api.ErrArg)
		wantNoSend(t, o, nil, api.ErrFrozen)
		wantSame(t, "O2: a refused Send", view(0, 2, 5), b.self, o, twin)
	}
}

// TestFree: what is held counts, whether it is delivered or not; the prefix alone gives room.
func TestFree(t *testing.T) {
	for window := 1; window <= api.MaxWindow; window++ {
		o := made(t, view(4, 6), 4, window)
		for k := range window {
			wantStand(t, o, stand{held: k, free: window - k, sent: k})
			wantSend(t, o, "m", api.Data{Sender: 4, Seq: k + 1})
		}
		wantNoSend(t, o, nil, api.ErrWindow)
		if n := len(o.Assign(api.MaxCount)); n != window {
			t.Fatalf("O5: %d positions, want %d", n, window)
		}
		wantNoSend(t, o, nil, api.ErrWindow)
		if n := len(o.Deliver(api.MaxCount)); n != window {
			t.Fatalf("O6: %d delivered, want %d", n, window)
		}
		wantNoSend(t, o, nil, api.ErrWindow)
		for k := 1; k <= window; k++ {
			wantHear(t, o, 6, stable(k, 0), api.OK)
			wantStand(t, o, stand{done: window, prefix: k, held: window - k, free: k, sent: window, delivered: window})
		}
		wantSend(t, o, "n", api.Data{Sender: 4, Seq: window + 1, Stable: window})
	}
}

// TestFreeOfOthers: what others sent does not count.
func TestFreeOfOthers(t *testing.T) {
	o := made(t, view(1, 2, 3), 2, 2)
	for _, q := range []int{1, 3} {
		wantPlace(t, o, q, data(q, 1, 0, "x"), api.OK)
		wantPlace(t, o, q, data(q, 2, 0, "y"), api.OK)
	}
	wantStand(t, o, stand{held: 4, free: 2})
	wantSend(t, o, "z", api.Data{Sender: 2, Seq: 1})
	wantStand(t, o, stand{held: 5, free: 1, sent: 1})
}

// TestSendStable: a message carries the Prefix of its time, and keeps it.
func TestSendStable(t *testing.T) {
	o := made(t, view(9), 9, 3)
	wantSend(t, o, "a", api.Data{Sender: 9, Seq: 1})
	wantAssign(t, o, 1, slot(1, 0, 9, 1))
	wantDeliver(t, o, 1, "1 9/1 a")
	wantSend(t, o, "b", api.Data{Sender: 9, Seq: 2, Stable: 1})
	wantAssign(t, o, 1, slot(2, 1, 9, 2))
	wantSend(t, o, "c", api.Data{Sender: 9, Seq: 3, Stable: 1})
	wantDeliver(t, o, 1, "2 9/2 b")
	wantSend(t, o, "d", api.Data{Sender: 9, Seq: 4, Stable: 2})
	wantMessages(t, o, message(9, 3, 1, "c"), message(9, 4, 2, "d"))
	wantStand(t, o, stand{done: 2, prefix: 2, held: 2, free: 1, sent: 4, delivered: 2})
}

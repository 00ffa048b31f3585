package machine_test

import (
	"bytes"
	"encoding/binary"
	"math/rand"
	"strings"
	"testing"

	"quorate/api"
	"quorate/machine"
)

// wantCommand holds the three calls against the chapter's words.
func wantCommand(t *testing.T, c api.Command) {
	t.Helper()
	want := api.ErrCommand
	if isCommand(c) {
		want = api.OK
	}
	if e := machine.CheckCommand(c); e != want {
		t.Fatalf("M1: %#v: error %d, want %d", c, e, want)
	}
	b, e := machine.EncodeCommand(c)
	if e != want {
		t.Fatalf("M2: Encode of %#v: error %d, want %d", c, e, want)
	}
	if want != api.OK {
		if b != nil {
			t.Fatalf("M2: Encode of %#v: % x beside an error", c, b)
		}
		if r := machine.New().Apply(c); r != result(api.ResBad, "", 0) {
			t.Fatalf("M4: %#v answers %#v", c, r)
		}
		return
	}
	if !bytes.Equal(b, encoded(c)) || len(b) < 8 || len(b) > 47 {
		t.Fatalf("M2: Encode of %#v: % x, want % x", c, b, encoded(c))
	}
	wantDecoded(t, b)
}

// wantDecoded holds DecodeCommand against the chapter's words, and tells whether it takes the bytes.
func wantDecoded(t *testing.T, b []byte) bool {
	t.Helper()
	want, ok := decoded(b)
	c, e := machine.DecodeCommand(b)
	if c != want || (e == api.OK) != ok || (e != api.OK && e != api.ErrCommand) {
		t.Fatalf("M2: Decode of % x: %#v, error %d, want %#v, %v", b, c, e, want, ok)
	}
	return ok
}

// samples is a valid command of each operation, with others at the edges.
func samples() []api.Command {
	full := "\xff2345678"
	return []api.Command{
		cmd(0, 1, 1, api.OpSet, "a"),
		cmd(15, api.MaxCount, api.MaxCount, api.OpSet, full, full),
		cmd(0, 1, 300, api.OpSet, "k", "v"),
		cmd(3, 127, 128, api.OpGet, "\x00"),
		cmd(1, 2, 3, api.OpCas, "a", "b", "c"),
		cmd(1, 2, 3, api.OpCas, "a", "", ""),
		cmd(15, api.MaxCount, api.MaxCount, api.OpCas, full, full, full),
		cmd(7, 16384, 16383, api.OpDel, full),
		cmd(1, 1, 1, api.OpAdd, "n", "-9999999"),
		cmd(1, 1, 1, api.OpAdd, "n", "99999999"),
		cmd(1, 1, 1, api.OpAdd, "n", "0"),
		cmd(2, 1, 1, api.OpLock, "L"),
		cmd(2, api.MaxCount, 1, api.OpUnlock, "L"),
		cmd(2, 1, api.MaxCount, api.OpFence, "L", "1"),
		cmd(2, 1, 1, api.OpFence, "L", "99999999"),
		cmd(0, 1, 1, api.OpEnd, "", "0"),
		cmd(0, 1, 1, api.OpEnd, "", "15"),
	}
}

// TestSamples: M1 and M2.
func TestSamples(t *testing.T) {
	least, most := 100, 0
	for _, c := range samples() {
		if !isCommand(c) {
			t.Fatalf("the test is wrong: %#v", c)
		}
		wantCommand(t, c)
		b, _ := machine.EncodeCommand(c)
		least, most = min(least, len(b)), max(most, len(b))
	}
	if least != 8 || most != 47 {
		t.Errorf("M2: texts of %d to %d bytes, want 8 to 47", least, most)
	}
}

// TestWhoAsks: M1, the bounds of Client, Inc, Req and Op.
func TestWhoAsks(t *testing.T) {
	for _, c := range samples() {
		for _, n := range append(far(), 0, 1, 2, 8, 9, 10, 15, 16, 17, 255, 256, 257, 1<<32, 1<<32+1, api.MaxCount-1, api.MaxCount) {
			client, inc, req, op := c, c, c, c
			client.Client, inc.Inc, req.Req, op.Op = n, n, n, n
			for _, x := range []api.Command{client, inc, req, op} {
				wantCommand(t, x)
			}
		}
	}
}

// TestTexts: M1, every operation with texts of all lengths in all places.
func TestTexts(t *testing.T) {
	texts := append(values(), "12", "123", "16", "15", "14", "8", "2", "100000000", "-10000000", "123456789", "1234567890", strings.Repeat("1", 256), strings.Repeat("1", 1000), strings.Repeat("\x00", 8), strings.Repeat("\x00", 9), strings.Repeat("é", 4), strings.Repeat("é", 5))
	for op := range 11 {
		for _, key := range texts {
			for _, val := range texts {
				for _, old := range texts {
					wantCommand(t, cmd(1, 2, 3, op, key, val, old))
				}
			}
		}
	}
}

// TestNumberTexts: M1, all short texts of digits and signs, and all numbers near the bounds.
func TestNumberTexts(t *testing.T) {
	letters := "-+0159 ./:ax\x00\xff"
	all := []string{""}
	for at := 0; at < len(all); at++ {
		s := all[at]
		for _, head := range []string{"", "1234", "-1234", "00000"} {
			for _, op := range []int{api.OpAdd, api.OpFence} {
				wantCommand(t, cmd(0, 1, 1, op, "k", head+s))
			}
			wantCommand(t, cmd(0, 1, 1, api.OpEnd, "", head+s))
		}
		if len(s) < 4 {
			for i := range len(letters) {
				all = append(all, s+letters[i:i+1])
			}
		}
	}
}

// TestDecodeDamaged: M2, every cut and every change of one byte; many of two.
func TestDecodeDamaged(t *testing.T) {
	r := rand.New(rand.NewSource(1))
	seen := [2]int{}
	look := func(b []byte) {
		if wantDecoded(t, b) {
			seen[1]++
		} else {
			seen[0]++
		}
	}
	for _, c := range samples() {
		b := encoded(c)
		for at := range len(b) + 1 {
			look(b[:at])
			look(b[at:])
			for x := range 256 {
				look(append(append(bytes.Clone(b[:at]), byte(x)), b[at:]...)) // one byte more
				if at < len(b) {
					d := bytes.Clone(b)
					d[at] = byte(x)
					look(d)
					d[r.Intn(len(d))] ^= 1 << r.Intn(8)
					look(d)
				}
			}
			if at < len(b) {
				look(append(bytes.Clone(b[:at]), b[at+1:]...)) // one byte less
			}
		}
	}
	if seen[0] < 10000 || seen[1] < 3000 {
		t.Errorf("the test is too weak: %d texts refused, %d taken", seen[0], seen[1])
	}
}

// TestDecodeLongCounts: M2, counts that are not in their shortest form, or too great.
func TestDecodeLongCounts(t *testing.T) {
	whole := encoded(cmd(1, 1, 1, api.OpSet, "k", "v"))
	for _, at := range []int{0, 1, 2, 3, 4, 6, 8} { // where its counts stand
		for _, count := range [][]byte{
			{whole[at] | 0x80, 0}, {whole[at] | 0x80, 0x80, 0}, {0x80, 0x80, 0x80, 0x80, 0x80, 0x80, 0x80, 0x80, 0x41},
			{0xff, 0xff, 0xff, 0xff, 0xff, 0xff, 0xff, 0xff, 0x7f}, {0xff, 0xff, 0xff, 0xff, 0xff, 0xff, 0xff, 0xff, 0xff, 0x01},
			{whole[at] | 0x80, 0x80, 0x80, 0x80, 0x80, 0x80, 0x80, 0x80, 0x80, 0x02},
		} {
			b := append(append(bytes.Clone(whole[:at]), count...), whole[at+1:]...)
			if wantDecoded(t, b) {
				t.Errorf("the test is wrong: % x", b)
			}
		}
	}
	for _, length := range []uint64{9, 128, 1 << 20, 1 << 40, 1 << 62} { // of the key, with bytes behind it and without
		b := binary.AppendUvarint([]byte{0, 1, 1, api.OpGet}, length)
		wantDecoded(t, b)
		wantDecoded(t, append(b, bytes.Repeat([]byte{0}, 200)...))
	}
}

// TestDecodeInvalid: M2, well formed texts of commands that are not valid.
func TestDecodeInvalid(t *testing.T) {
	r := rand.New(rand.NewSource(2))
	seen := 0
	for range 20000 {
		c := spoilt(r, pick(r, samples()))
		if c.Client < 0 || c.Inc < 0 || c.Req < 0 || c.Op < 0 {
			continue
		}
		if !wantDecoded(t, encoded(c)) {
			seen++
		}
	}
	if seen < 5000 {
		t.Errorf("the test is too weak: %d", seen)
	}
}

// TestDecodeAnyBytes: P1 and M2.
func TestDecodeAnyBytes(t *testing.T) {
	r := rand.New(rand.NewSource(3))
	for range 50000 {
		b := make([]byte, r.Intn(60))
		r.Read(b)
		if r.Intn(2) == 0 {
			for i := range b {
				b[i] %= 10
			}
		}
		wantDecoded(t, b)
	}
	wantDecoded(t, nil)
	wantDecoded(t, make([]byte, 1<<20))
}

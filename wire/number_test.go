package wire_test

import (
	"bytes"
	"encoding/binary"
	"math"
	"testing"

	"quorate/api"
	"quorate/wire"
)

// counts is the counts at which a byte more is needed, with their neighbours.
func counts() []int {
	l := []int{0, 1, 2, 64, 300, api.MaxCount - 1, api.MaxCount}
	for k := 1; k < 9; k++ {
		l = append(l, 1<<(7*k)-1, 1<<(7*k), 1<<(7*k)+1)
	}
	return l
}

func high(n int) []byte { return bytes.Repeat([]byte{0x80}, n) }

func TestPutIntWritesTheShortestForm(t *testing.T) {
	for _, v := range counts() {
		for _, ahead := range [][]byte{nil, {}, {9}, {0x80, 0xff, 0}} {
			want := binary.AppendUvarint(append([]byte{}, ahead...), uint64(v))
			if b, e := wire.PutInt(ahead, v); e != api.OK || !bytes.Equal(b, want) {
				t.Errorf("W1: PutInt(% x, %d) = % x, %d, want % x", ahead, v, b, e, want)
			}
		}
	}
	if b, _ := wire.PutInt(nil, api.MaxCount); !bytes.Equal(b, append(high(8), 0x40)) {
		t.Errorf("W1: MaxCount is % x", b)
	}
}

func TestPutIntRefusesWhatIsNoCount(t *testing.T) {
	for _, v := range []int{-1, -128, math.MinInt, api.MaxCount + 1, math.MaxInt} {
		for _, ahead := range [][]byte{nil, {1, 2}} {
			if b, e := wire.PutInt(ahead, v); b != nil || e != api.ErrArg {
				t.Errorf("W1: PutInt(% x, %d) = % x, %d", ahead, v, b, e)
			}
		}
	}
}

func TestPutIntSharesNothing(t *testing.T) {
	for _, v := range []int{0, 300, api.MaxCount} {
		given := []byte{1, 2, 3, 4, 5, 6, 7, 8, 9, 10, 11, 12, 13, 14}
		want := append([]byte{}, given...)
		for n := range len(given) + 1 {
			first, _ := wire.PutInt(given[:n], v)
			second, _ := wire.PutInt(given[:n], v)
			scribble(first)
			if !bytes.Equal(given, want) {
				t.Fatalf("P2: PutInt(.., %d) of %d bytes shares memory with them", v, n)
			}
			if !bytes.Equal(second, binary.AppendUvarint(append([]byte{}, want[:n]...), uint64(v))) {
				t.Fatalf("P2: two answers of PutInt(.., %d) share memory", v)
			}
		}
	}
}

// scribble writes over a list and its spare room.
func scribble(b []byte) {
	b = b[:cap(b)]
	for i := range b {
		b[i] ^= 0xee
	}
}

func TestTakeIntReadsWhatPutIntWrites(t *testing.T) {
	for _, v := range counts() {
		for _, behind := range [][]byte{nil, {0}, {0x80}, {0xff, 0xff}} {
			for _, ahead := range [][]byte{nil, {7}, {0x80, 0x80}} {
				b := append(binary.AppendUvarint(append([]byte{}, ahead...), uint64(v)), behind...)
				kept := append([]byte{}, b...)
				got, next, e := wire.TakeInt(b, len(ahead))
				if got != v || next != len(b)-len(behind) || e != api.OK {
					t.Errorf("W2: TakeInt(% x, %d) = %d, %d, %d, want %d", b, len(ahead), got, next, e, v)
				}
				if !bytes.Equal(b, kept) {
					t.Errorf("P2: TakeInt changes what it is given")
				}
			}
		}
	}
	if v, next, e := wire.TakeInt(append(bytes.Repeat([]byte{0xff}, 8), 0x3f), 0); v != api.MaxCount-1 || next != 9 || e != api.OK {
		t.Errorf("example 3: MaxCount-1 is read as %d, %d, %d", v, next, e)
	}
}

func TestTakeIntRefuses(t *testing.T) {
	ff := bytes.Repeat([]byte{0xff}, 8)
	for _, c := range []struct {
		b  []byte
		at int
		e  api.Errno
	}{
		{nil, -1, api.ErrArg}, {nil, 1, api.ErrArg}, {[]byte{5}, 2, api.ErrArg}, {[]byte{5}, -1, api.ErrArg}, {[]byte{5}, math.MinInt, api.ErrArg}, {[]byte{5}, math.MaxInt, api.ErrArg},
		{nil, 0, api.ErrShort}, {[]byte{}, 0, api.ErrShort}, {[]byte{5}, 1, api.ErrShort}, {high(1), 0, api.ErrShort}, {high(8), 0, api.ErrShort}, {high(9), 1, api.ErrShort}, {high(9), 9, api.ErrShort}, {ff, 0, api.ErrShort},
		{high(9), 0, api.ErrForm}, {append(high(9), 0), 0, api.ErrForm}, {append(high(9), 1), 0, api.ErrForm}, {append(high(9), 0x80), 0, api.ErrForm}, {high(40), 0, api.ErrForm}, {append(append([]byte{}, ff...), 0xff), 0, api.ErrForm},
		{[]byte{0x80, 0}, 0, api.ErrForm}, {[]byte{0x81, 0}, 0, api.ErrForm}, {[]byte{0xff, 0x80, 0}, 0, api.ErrForm}, {[]byte{3, 0x80, 0, 1}, 1, api.ErrForm}, {append(high(8), 0), 0, api.ErrForm},
		{append(high(8), 0x41), 0, api.ErrForm}, {append(high(8), 0x7f), 0, api.ErrForm}, {append([]byte{0x81}, append(high(7), 0x40)...), 0, api.ErrForm}, {append(append([]byte{}, ff...), 0x40), 0, api.ErrForm}, {append(append([]byte{}, ff...), 0x7f), 0, api.ErrForm},
	} {
		if v, next, e := wire.TakeInt(c.b, c.at); v != 0 || next != 0 || e != c.e {
			t.Errorf("W2: TakeInt(% x, %d) = %d, %d, %d, want error %d", c.b, c.at, v, next, e, c.e)
		}
	}
}

func TestTakeIntHasOneFormForEachCount(t *testing.T) {
	for n := range 1 << 16 {
		b := []byte{byte(n), byte(n >> 8)}
		v, next, e := wire.TakeInt(b, 0)
		want := api.OK
		if b[0] >= 0x80 && b[1] >= 0x80 {
			want = api.ErrShort
		} else if b[0] >= 0x80 && b[1] == 0 {
			want = api.ErrForm
		}
		if e != want {
			t.Fatalf("W2: TakeInt(% x, 0): error %d, want %d", b, e, want)
		}
		if e != api.OK {
			continue
		}
		if back, _ := wire.PutInt(nil, v); !bytes.Equal(back, b[:next]) {
			t.Fatalf("W2: TakeInt(% x, 0) = %d, which is written % x", b, v, back)
		}
	}
}

package wire_test

import (
	"bytes"
	"hash/crc32"
	"math/rand"
	"testing"

	"quorate/api"
	"quorate/wire"
)

func TestSumOfTheExamples(t *testing.T) {
	for _, c := range []struct {
		b    []byte
		want int
	}{{nil, 0}, {[]byte{}, 0}, {[]byte("123456789"), 3421780262}, {[]byte{0}, 0xd202ef8d}, {bytes.Repeat([]byte{0xff}, 4), 0xffffffff}} {
		if s := wire.Sum(c.b); s != c.want {
			t.Errorf("W3: Sum(% x) = %x, want %x", c.b, s, c.want)
		}
	}
}

func TestSumIsTheCyclicCheck(t *testing.T) {
	for c := range 256 {
		for _, b := range [][]byte{{byte(c)}, {0, byte(c)}, {byte(c), 0xff, 1}} {
			if s := wire.Sum(b); s != int(crc32.ChecksumIEEE(b)) {
				t.Errorf("W3: Sum(% x) = %x", b, s)
			}
		}
	}
	source := rand.New(rand.NewSource(3))
	for n := range 400 {
		b := make([]byte, n*n/4)
		source.Read(b)
		kept := append([]byte{}, b...)
		if s := wire.Sum(b); s != int(crc32.ChecksumIEEE(b)) {
			t.Errorf("W3: Sum of %d bytes = %x", len(b), s)
		}
		if !bytes.Equal(b, kept) {
			t.Errorf("P2: Sum changes what it is given")
		}
	}
	if s := wire.Sum(make([]byte, api.MaxText)); s < 0 || s > 4294967295 {
		t.Errorf("W3: Sum = %d leaves 32 bits", s)
	}
}

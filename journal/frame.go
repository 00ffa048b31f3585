package journal

import (
	"quorate/api"
	"quorate/wire"
)

// mark stands at the front of every file.
const mark = "qj"

// How many bytes the parts of a file have.
const (
	generationSize = 8
	countSize      = 4
	kindSize       = 1
	lengthSize     = 2
	checkSize      = 1
	sumSize        = 4
)

const (
	checkStart = 0xa5      // the check byte ahead of its turning
	mostCount  = 1<<32 - 1 // the greatest that a count's bytes can tell
)

// isValid tells whether a record can stand in a file.
func isValid(r api.Record) bool {
	return api.RecState <= r.Kind && r.Kind <= api.RecPromise && len(r.Body) <= api.MaxRecord
}

// frameSize is how many bytes a record has in a file.
func frameSize(r api.Record) int {
	return kindSize + lengthSize + checkSize + len(r.Body) + sumSize
}

// headOf is the head of a file.
func headOf(generation, count int) []byte {
	b := putNumber([]byte(mark), generationSize, generation)
	b = putNumber(b, countSize, count)
	return putNumber(b, sumSize, wire.Sum(b))
}

// withFrame puts a record's frame behind bytes that end with the sum ahead of it.
func withFrame(b []byte, r api.Record) []byte {
	ahead := len(b) - sumSize
	b = putNumber(b, kindSize, r.Kind)
	b = putNumber(b, lengthSize, len(r.Body))
	b = putNumber(b, checkSize, checkOf(b[ahead+sumSize:]))
	b = append(b, r.Body...)
	return putNumber(b, sumSize, wire.Sum(b[ahead:]))
}

// checkOf is the check byte of what stands ahead of it in a frame.
func checkOf(ahead []byte) int {
	check := byte(checkStart)
	for _, b := range ahead {
		check ^= b
	}
	return int(check)
}

// putNumber appends a number of so many bytes, the highest first.
func putNumber(b []byte, size, n int) []byte {
	for i := range size {
		b = append(b, byte(n>>(8*(size-1-i))))
	}
	return b
}

// numberOf is what putNumber wrote. Eight bytes can tell more than an int holds.
func numberOf(b []byte) uint64 {
	n := uint64(0)
	for _, x := range b {
		n = n<<8 | uint64(x)
	}
	return n
}

// lastSum is the sum that bytes end with.
func lastSum(b []byte) int { return int(numberOf(b[len(b)-sumSize:])) }

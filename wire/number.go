package wire

import "quorate/api"

const (
	groupBits = 7 // a byte of a count holds so many of its bits
	more      = 128
	mostBytes = 9 // no count takes more
)

// PutInt appends a number in its shortest form.
func PutInt(b []byte, v int) ([]byte, api.Errno) {
	if !within(v, 0, api.MaxCount) {
		return nil, api.ErrArg
	}
	// A list of its own: appending to b could write into the spare room behind it.
	out := make([]byte, len(b), len(b)+mostBytes)
	copy(out, b)
	return putCounts(out, v), api.OK
}

// putCounts appends counts to a list that is the caller's own.
func putCounts(b []byte, counts ...int) []byte {
	for _, v := range counts {
		for v >= more {
			b = append(b, byte(v%more+more))
			v /= more
		}
		b = append(b, byte(v))
	}
	return b
}

// TakeInt reads the number that begins at a place: the number, the place behind it.
func TakeInt(b []byte, at int) (int, int, api.Errno) {
	if !within(at, 0, len(b)) {
		return 0, 0, api.ErrArg
	}
	v := 0
	for i := range mostBytes {
		if at+i == len(b) {
			return 0, 0, api.ErrShort
		}
		c := int(b[at+i])
		v |= (c % more) << (groupBits * i)
		if c >= more {
			continue
		}
		if c == 0 && i > 0 || v > api.MaxCount {
			return 0, 0, api.ErrForm
		}
		return v, at + i + 1, api.OK
	}
	return 0, 0, api.ErrForm
}

package journal

import (
	"bytes"

	"quorate/api"
)

// units is how many units a write has.
func units(w api.Write) int {
	switch {
	case !isFile(w.File):
		return 0
	case w.Start:
		return 1 + len(w.Bytes)
	}
	return len(w.Bytes)
}

// isFile tells whether a disk has a file of this number.
func isFile(number int) bool { return number == 0 || number == 1 }

// Cost is how many units writes have.
func Cost(ws []api.Write) int {
	n := 0
	for _, w := range ws {
		n += units(w)
	}
	return n
}

// Apply is a disk behind the first so many units of writes (below 0: all of them).
func Apply(d api.Disk, ws []api.Write, k int) api.Disk {
	left := k
	if k < 0 {
		left = Cost(ws)
	}
	files := [2][]byte{bytes.Clone(d.A), bytes.Clone(d.B)}
	for _, w := range ws {
		if left == 0 {
			break
		}
		if !isFile(w.File) {
			continue
		}
		if w.Start {
			files[w.File] = nil
			left--
		}
		n := min(left, len(w.Bytes))
		files[w.File] = append(files[w.File], w.Bytes[:n]...)
		left -= n
	}
	return api.Disk{A: files[0], B: files[1]}
}

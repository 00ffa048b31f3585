package journal

import (
	"bytes"

	"quorate/api"
)

// recordList is the records of a file.
type recordList []api.Record

// each gives the records by their places. Whoever takes one may write into it: so each pass gives copies.
func (l recordList) each(yield func(int, api.Record) bool) {
	for i, r := range l {
		if yield == nil || !yield(i, copied(r)) {
			return
		}
	}
}

func copied(r api.Record) api.Record {
	return api.Record{Kind: r.Kind, Body: bytes.Clone(r.Body)}
}

// picked is what the file that counts holds, if one does.
func picked(d api.Disk) (contents, bool) {
	a, b := read(0, d.A), read(1, d.B)
	switch {
	case b.isSound() && (!a.isSound() || b.journal.generation > a.journal.generation):
		return b, true
	case a.isSound():
		return a, true
	}
	return contents{}, false
}

// isUnbegun tells whether a disk holds less than New's write: nothing, or what was torn of it.
func isUnbegun(d api.Disk) bool {
	first := headOf(1, 0)
	return len(d.B) == 0 && len(d.A) < len(first) && bytes.HasPrefix(first, d.A)
}

// Open reads a disk: the journal, its records, the writes that make the disk sound again.
func Open(d api.Disk) (*Journal, []api.Record, []api.Write, api.Errno) {
	found, ok := picked(d)
	if !ok && isUnbegun(d) {
		j, ws := New()
		return j, nil, ws, api.OK
	}
	if !ok {
		return nil, nil, nil, api.ErrFile
	}
	j := found.journal
	if found.isClean {
		return &j, found.records, nil, api.OK
	}
	ws, e := j.turn(found.records...)
	if e != api.OK {
		return nil, nil, nil, e
	}
	return &j, found.records, ws, api.OK
}

// Each gives the sound records of a disk, by their places from 0 on.
func Each(d api.Disk) func(yield func(int, api.Record) bool) {
	found, _ := picked(d)
	return found.records.each
}

package journal_test

import (
	"bytes"
	"encoding/binary"
	"fmt"
	"hash/crc32"
	"math"
	"math/rand"
	"slices"
	"testing"

	"quorate/api"
	"quorate/journal"
)

// far are numbers that are no kind of a record and no file.
func far() []int {
	return []int{math.MinInt, math.MinInt + 1, -api.MaxCount, -1 << 32, -256, -255, -254, -2, -1, 5, 6, 255, 256, 257, 258, 260, 1 << 16, 1<<16 + 1, 1 << 32, 1<<32 + 1, api.MaxCount, math.MaxInt}
}

// pattern makes n bytes that tell their places.
func pattern(n int) []byte {
	b := make([]byte, n)
	for i := range b {
		b[i] = byte(i*7 + i/256 + 1)
	}
	return b
}

func randomBytes(r *rand.Rand, n int) []byte {
	b := make([]byte, n)
	r.Read(b)
	return b
}

func rec(kind int, body string) api.Record { return api.Record{Kind: kind, Body: []byte(body)} }

// short is a drawn record with few bytes.
func short(r *rand.Rand) api.Record {
	return api.Record{Kind: 1 + r.Intn(4), Body: randomBytes(r, r.Intn(7))}
}

// drawn is a record of any length, mostly a short one.
func drawn(r *rand.Rand) api.Record {
	if r.Intn(4) > 0 {
		return short(r)
	}
	return api.Record{Kind: 1 + r.Intn(4), Body: randomBytes(r, r.Intn(api.MaxRecord+1))}
}

// number is one of so many bytes, in the words of 12.2.
func number(size int, n uint64) []byte {
	return binary.BigEndian.AppendUint64(nil, n)[8-size:]
}

func sumOf(parts ...[]byte) []byte {
	return number(4, uint64(crc32.ChecksumIEEE(bytes.Join(parts, nil))))
}

// headWith is a head with whatever generation and count.
func headWith(generation, count uint64) []byte {
	b := bytes.Join([][]byte{{0x71, 0x6a}, number(8, generation), number(4, count)}, nil)
	return append(b, sumOf(b)...)
}

// frameWith is a frame behind a sum, with whatever kind, length and turn of the check byte; its sum is right.
func frameWith(ahead []byte, kind, length int, turn byte, body []byte) []byte {
	f := []byte{byte(kind), byte(length >> 8), byte(length)}
	f = append(f, 0xa5^f[0]^f[1]^f[2]^turn)
	f = append(f, body...)
	return append(f, sumOf(ahead, f)...)
}

// behind puts records' frames behind a file.
func behind(f []byte, l ...api.Record) []byte {
	f = bytes.Clone(f)
	for _, r := range l {
		f = append(f, frameWith(f[len(f)-4:], r.Kind, len(r.Body), 0, r.Body)...)
	}
	return f
}

// file is the bytes of one.
func file(generation, count int, l ...api.Record) []byte {
	return behind(headWith(uint64(generation), uint64(count)), l...)
}

// parsed is a file in the words of 12.2.
type parsed struct {
	sound, clean bool
	generation   int
	records      []api.Record
}

func parse(f []byte) parsed {
	if len(f) < 18 || len(f) > 65536 {
		return parsed{}
	}
	generation, count := binary.BigEndian.Uint64(f[2:]), binary.BigEndian.Uint32(f[10:])
	if generation < 1 || generation > 1<<62 || !bytes.Equal(f[:18], headWith(generation, uint64(count))) {
		return parsed{}
	}
	p := parsed{generation: int(generation)}
	at := 18
	for at < len(f) {
		r, ok := wholeFrame(f[at-4:at], f[at:])
		if !ok {
			break
		}
		p.records = append(p.records, r)
		at += 8 + len(r.Body)
	}
	p.clean = at == len(f)
	p.sound = len(p.records) >= int(count)
	return p
}

// wholeFrame is the record of the frame that bytes begin with, if it is whole: if it is just what is written for a valid record.
func wholeFrame(ahead, b []byte) (api.Record, bool) {
	if len(b) < 8 {
		return api.Record{}, false
	}
	size := int(binary.BigEndian.Uint16(b[1:]))
	if b[0] < 1 || b[0] > 4 || size > 4200 || len(b) < 8+size {
		return api.Record{}, false
	}
	body := b[4 : 4+size]
	return api.Record{Kind: int(b[0]), Body: bytes.Clone(body)}, bytes.Equal(b[:8+size], frameWith(ahead, int(b[0]), size, 0, body))
}

// model is a journal in the chapter's words: it keeps the present file whole.
type model struct {
	at, generation int
	bytes          []byte
	records        []api.Record
}

// begin is a model of a file that is begun, and the write that does it.
func begin(at, generation int, l ...api.Record) (*model, []api.Write) {
	b := file(generation, len(l), l...)
	return &model{at, generation, b, l}, []api.Write{{File: at, Start: true, Bytes: b}}
}

func isRecord(r api.Record) bool { return r.Kind >= 1 && r.Kind <= 4 && len(r.Body) <= 4200 }

func (m *model) append(r api.Record) ([]api.Write, api.Errno) {
	if !isRecord(r) {
		return nil, api.ErrRecord
	}
	grown := behind(m.bytes, r)
	if len(grown) > 65536 {
		return nil, api.ErrLong
	}
	w := []api.Write{{File: m.at, Bytes: grown[len(m.bytes):]}}
	m.bytes, m.records = grown, append(slices.Clone(m.records), r)
	return w, api.OK
}

func (m *model) compact(r api.Record) ([]api.Write, api.Errno) {
	if !isRecord(r) {
		return nil, api.ErrRecord
	}
	if m.generation == 1<<62 {
		return nil, api.ErrSpent
	}
	next, w := begin(1-m.at, m.generation+1, r)
	*m = *next
	return w, api.OK
}

// pick is the file that counts, and its number; nil: none.
func pick(d api.Disk) (*parsed, int) {
	a, b := parse(d.A), parse(d.B)
	if a.sound && (!b.sound || a.generation >= b.generation) {
		return &a, 0
	}
	if b.sound {
		return &b, 1
	}
	return nil, 0
}

// open: P12.3, in its words.
func open(d api.Disk) (*model, []api.Write, api.Errno) {
	p, at := pick(d)
	switch {
	case p == nil && len(d.B) == 0 && len(d.A) < 18 && bytes.Equal(d.A, file(1, 0)[:len(d.A)]):
		m, w := begin(0, 1)
		return m, w, api.OK
	case p == nil:
		return nil, nil, api.ErrFile
	case p.clean:
		return &model{at, p.generation, [][]byte{d.A, d.B}[at], p.records}, nil, api.OK
	case p.generation == 1<<62:
		return nil, nil, api.ErrSpent
	}
	m, w := begin(1-at, p.generation+1, p.records...)
	return m, w, api.OK
}

func sameRecord(a, b api.Record) bool { return a.Kind == b.Kind && bytes.Equal(a.Body, b.Body) }

func sameRecords(a, b []api.Record) bool { return slices.EqualFunc(a, b, sameRecord) }

func sameWrites(a, b []api.Write) bool {
	return slices.EqualFunc(a, b, func(v, w api.Write) bool {
		return v.File == w.File && v.Start == w.Start && bytes.Equal(v.Bytes, w.Bytes)
	})
}

func sameDisk(a, b api.Disk) bool { return bytes.Equal(a.A, b.A) && bytes.Equal(a.B, b.B) }

// shown is the beginning of bytes.
func shown(b []byte) string {
	if len(b) <= 48 {
		return fmt.Sprintf("% x", b)
	}
	return fmt.Sprintf("% x .. of %d bytes", b[:48], len(b))
}

func shownWrites(l []api.Write) string {
	s := ""
	for _, w := range l {
		s += fmt.Sprintf("{file %d, start %v, %s}", w.File, w.Start, shown(w.Bytes))
	}
	return s
}

func shownRecords(l []api.Record) string {
	s := fmt.Sprintf("%d records", len(l))
	for _, r := range l[:min(5, len(l))] {
		s += fmt.Sprintf(" {%d, %s}", r.Kind, shown(r.Body))
	}
	return s
}

func wantWrites(t *testing.T, what string, got, want []api.Write) {
	t.Helper()
	if !sameWrites(got, want) {
		t.Fatalf("%s: writes %s, want %s", what, shownWrites(got), shownWrites(want))
	}
}

// wantAt looks whether a journal stands where the model does, as far as it tells.
func wantAt(t *testing.T, j *journal.Journal, m *model) {
	t.Helper()
	for range 2 { // asking changes nothing
		if j.Size() != len(m.bytes) || j.Generation() != m.generation {
			t.Fatalf("P12.6: size %d, generation %d, want %d and %d", j.Size(), j.Generation(), len(m.bytes), m.generation)
		}
	}
}

// wantAppend appends to both.
func wantAppend(t *testing.T, j *journal.Journal, m *model, r api.Record) []api.Write {
	t.Helper()
	want, wantE := m.append(r)
	w, e := j.Append(r)
	if e != wantE {
		t.Fatalf("P12.4: Append of kind %d with %d bytes: error %d, want %d", r.Kind, len(r.Body), e, wantE)
	}
	wantWrites(t, "P12.4: Append", w, want)
	wantAt(t, j, m)
	return w
}

// wantCompact compacts both.
func wantCompact(t *testing.T, j *journal.Journal, m *model, r api.Record) []api.Write {
	t.Helper()
	want, wantE := m.compact(r)
	w, e := j.Compact(r)
	if e != wantE {
		t.Fatalf("P12.5: Compact of kind %d with %d bytes: error %d, want %d", r.Kind, len(r.Body), e, wantE)
	}
	wantWrites(t, "P12.5: Compact", w, want)
	wantAt(t, j, m)
	return w
}

// made is a new journal, its model, and the disk behind its write.
func made(t *testing.T) (*journal.Journal, *model, api.Disk) {
	t.Helper()
	j, w := journal.New()
	m, want := begin(0, 1)
	if j == nil {
		t.Fatal("P12.2: New answers no journal")
	}
	wantWrites(t, "P12.2: New", w, want)
	wantAt(t, j, m)
	return j, m, all(api.Disk{}, w)
}

// all is a disk behind all of the writes.
func all(d api.Disk, ws []api.Write) api.Disk { return journal.Apply(d, ws, -1) }

// gone is what a pass of Each gives, with its places.
func gone(t *testing.T, each func(func(int, api.Record) bool)) []api.Record {
	t.Helper()
	var l []api.Record
	for i, r := range each {
		if i != len(l) {
			t.Fatalf("P12.7: record %d has the place %d", len(l), i)
		}
		l = append(l, r)
	}
	return l
}

// wantOpen opens a disk and holds all answers, and those of Each, against the chapter's words.
func wantOpen(t *testing.T, d api.Disk) (*journal.Journal, *model, []api.Write, api.Errno) {
	t.Helper()
	m, want, wantE := open(d)
	j, l, w, e := journal.Open(d)
	if e != wantE || (j == nil) != (m == nil) {
		t.Fatalf("P12.3: Open of %s and %s: error %d, want %d", shown(d.A), shown(d.B), e, wantE)
	}
	wantWrites(t, "P12.3: Open of "+shown(d.A)+" and "+shown(d.B), w, want)
	var records []api.Record
	if m != nil {
		records = m.records
		wantAt(t, j, m)
	}
	if !sameRecords(l, records) {
		t.Fatalf("P12.3: Open of %s and %s: %s, want %s", shown(d.A), shown(d.B), shownRecords(l), shownRecords(records))
	}
	if p, _ := pick(d); p != nil {
		records = p.records // also where Open answers ErrSpent
	}
	if got := gone(t, journal.Each(d)); !sameRecords(got, records) {
		t.Fatalf("P12.7: Each of %s and %s: %s, want %s", shown(d.A), shown(d.B), shownRecords(got), shownRecords(records))
	}
	return j, m, w, e
}

// wantGoesOn opens a disk, and then looks by further calls whether the journal knows its file and last sum.
func wantGoesOn(t *testing.T, d api.Disk) api.Errno {
	t.Helper()
	j, m, w, e := wantOpen(t, d)
	if e != api.OK {
		return e
	}
	d = all(d, w)
	d = all(d, wantAppend(t, j, m, rec(3, "on")))
	wantRecords(t, d, m.records)
	if m.generation < api.MaxCount {
		d = all(d, wantCompact(t, j, m, rec(1, "whole")))
		wantRecords(t, d, m.records)
	}
	return e
}

// wantRecords opens a disk that is in order.
func wantRecords(t *testing.T, d api.Disk, want []api.Record) {
	t.Helper()
	j, l, w, e := journal.Open(d)
	if j == nil || e != api.OK || len(w) != 0 || !sameRecords(l, want) {
		t.Fatalf("P12.3: Open of %s and %s: %s, %d writes, error %d, want %s and no write", shown(d.A), shown(d.B), shownRecords(l), len(w), e, shownRecords(want))
	}
}

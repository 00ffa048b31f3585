package journal_test

import (
	"bytes"
	"math/rand"
	"strconv"
	"testing"

	"quorate/api"
	"quorate/journal"
)

// refused opens a disk that has no file.
func refused(t *testing.T, d api.Disk, want api.Errno) {
	t.Helper()
	if j, l, w, e := journal.Open(d); j != nil || l != nil || w != nil || e != want {
		t.Fatalf("P12.3: Open of %s and %s: %s, %s, error %d, want nothing and %d", shown(d.A), shown(d.B), shownRecords(l), shownWrites(w), e, want)
	}
	wantOpen(t, d)
}

// named is bytes with what is amiss there.
type named struct {
	name  string
	bytes []byte
}

// unsound are files that do not count, each for a reason of its own.
func unsound() []named {
	one := rec(2, "one")
	sound := file(3, 1, one)
	long := file(3, 0)
	for len(long) < api.MaxFile-4208 {
		long = behind(long, api.Record{Kind: 2, Body: pattern(4200)})
	}
	long = behind(long, api.Record{Kind: 2, Body: pattern(api.MaxFile + 1 - len(long) - 8)})
	return []named{
		{"it is empty", nil},
		{"17 bytes of a head", file(3, 0)[:17]},
		{"another first byte", changed(sound, 0, 0x72)},
		{"another second byte", changed(sound, 1, 0x6b)},
		{"another first byte, with its sum", behind(summed(changed(sound[:14], 0, 0x72)), one)},
		{"another second byte, with its sum", behind(summed(changed(sound[:14], 1, 0x6b)), one)},
		{"another generation", changed(sound, 9, 4)},
		{"another count", changed(sound, 13, 0)},
		{"another sum", changed(sound, 17, sound[17]+1)},
		{"a sum lowest byte first", append(sound[:14:14], sound[17], sound[16], sound[15], sound[14])},
		{"generation 0", headWith(0, 0)},
		{"a generation too great", headWith(1<<62+1, 0)},
		{"a generation of 64 bits", headWith(1<<63+1, 0)},
		{"the greatest generation", headWith(1<<64-1, 0)},
		{"no record of one", file(3, 1)},
		{"one record of two", file(3, 2, one)},
		{"a count of 2^31", behind(headWith(3, 1<<31), one)},
		{"a count of 2^32-1", file(3, 1<<32-1, one)},
		{"a torn record of one", sound[:len(sound)-1]},
		{"a damaged record of one", changed(sound, 22, 'O')},
		{"the second of two torn", file(3, 2, one, one)[:39]},
		{"the first of two damaged", changed(file(3, 2, one, one), 22, 'O')},
		{"more than MaxFile bytes", long},
		{"far more bytes", append(bytes.Clone(sound), pattern(api.MaxFile)...)},
		{"a head that is not first", append([]byte{0x71}, sound...)},
		{"other bytes", pattern(40)},
	}
}

// summed is bytes with their sum.
func summed(b []byte) []byte { return append(bytes.Clone(b), sumOf(b)...) }

// changed is a file with another byte at a place.
func changed(f []byte, at int, with byte) []byte {
	f = bytes.Clone(f)
	f[at] = with
	return f
}

// TestUnsound: P12.3, a file that is not sound does not count, in either place.
func TestUnsound(t *testing.T) {
	sound := file(2, 1, rec(1, "it"))
	for _, f := range unsound() {
		if parse(f.bytes).sound {
			t.Fatalf("the test is wrong: %s", f.name)
		}
		t.Run(f.name, func(t *testing.T) {
			for _, d := range []api.Disk{{A: sound, B: f.bytes}, {A: f.bytes, B: sound}} {
				wantRecords(t, d, []api.Record{rec(1, "it")})
				wantGoesOn(t, d)
			}
			for _, g := range unsound() {
				if len(f.bytes) > 0 || len(g.bytes) > 0 {
					refused(t, api.Disk{A: f.bytes, B: g.bytes}, api.ErrFile)
				}
			}
		})
	}
}

// TestSound: files that count, at the edges.
func TestSound(t *testing.T) {
	one, two := rec(2, "one"), rec(3, "")
	for _, f := range [][]byte{
		file(1, 0), file(2, 0), file(api.MaxCount, 0), headWith(1<<61, 0), headWith(1<<32+1, 0),
		file(1, 0, one), file(1, 1, one), file(1, 0, one, two), file(1, 1, one, two), file(1, 2, one, two),
	} {
		for _, d := range []api.Disk{{A: f}, {B: f}} {
			wantRecords(t, d, parse(f).records)
			wantGoesOn(t, d)
		}
	}
	_, _, d := filled(t, api.MaxFile)
	j, _, _, e := wantOpen(t, d)
	if e != api.OK || j.Size() != api.MaxFile {
		t.Errorf("P12.3: a file of MaxFile bytes: error %d", e)
	}
	wantOpen(t, api.Disk{A: d.A[:api.MaxFile-1]})
	refused(t, api.Disk{A: append(d.A, 0)}, api.ErrFile)
}

// TestPicks: P12.3, the greater generation counts, of two alike A.
func TestPicks(t *testing.T) {
	a, b := []api.Record{rec(1, "a"), rec(2, "aa")}, []api.Record{rec(1, "b")}
	generations := []int{1, 2, 3, 255, 256, 257, 1 << 32, 1<<32 + 1, 1 << 61, api.MaxCount - 1, api.MaxCount}
	for _, g := range generations {
		for _, h := range generations {
			d := api.Disk{A: file(g, 1, a...), B: file(h, 1, b...)}
			want := a
			if h > g {
				want = b
			}
			wantRecords(t, d, want)
			wantGoesOn(t, d)
			d.A, d.B = append(d.A, 1), append(d.B, 1) // not clean, but sound
			wantGoesOn(t, d)
			d.A = d.A[:len(d.A)-1]
			wantGoesOn(t, d) // a clean file does not count ahead of a later one
		}
	}
}

// TestUnbegun: P12.3, just a torn beginning of New's write is taken for an empty disk.
func TestUnbegun(t *testing.T) {
	first := file(1, 0)
	for n := range 18 {
		d := api.Disk{A: first[:n]}
		j, m, w, e := wantOpen(t, d)
		_, begins := journal.New()
		if e != api.OK || !sameWrites(w, begins) {
			t.Fatalf("P12.3: of %s: %s, error %d", shown(d.A), shownWrites(w), e)
		}
		d = all(d, w)
		wantRecords(t, d, nil)
		wantRecords(t, all(d, wantAppend(t, j, m, rec(2, "x"))), m.records)

		refused(t, api.Disk{A: first[:n], B: []byte{0}}, api.ErrFile)
		refused(t, api.Disk{A: first[:n], B: first[:1]}, api.ErrFile)
		refused(t, api.Disk{A: first[:n], B: pattern(18)}, api.ErrFile)
		if n > 0 {
			refused(t, api.Disk{B: first[:n]}, api.ErrFile)
		}
		for at := range n {
			for bit := range 8 {
				refused(t, api.Disk{A: changed(first[:n], at, first[at]^1<<bit)}, api.ErrFile)
			}
		}
	}
	refused(t, api.Disk{A: file(2, 0)[:17]}, api.ErrFile)
	refused(t, api.Disk{A: file(1, 1)[:17]}, api.ErrFile)
	refused(t, api.Disk{A: file(1, 1)}, api.ErrFile)
	refused(t, api.Disk{A: append(first[:17:17], first[17]^1)}, api.ErrFile)
	wantRecords(t, api.Disk{A: []byte{}, B: first}, nil)
}

// notWhole are bytes that are no whole frame behind a sum.
func notWhole(ahead []byte) []named {
	body := pattern(300)
	whole := frameWith(ahead, 2, 300, 0, body)
	l := []named{
		{"kind 0", frameWith(ahead, 0, 300, 0, body)},
		{"kind 5", frameWith(ahead, 5, 300, 0, body)},
		{"kind 255", frameWith(ahead, 255, 300, 0, body)},
		{"a length above 4200", frameWith(ahead, 1, 4201, 0, pattern(4201))},
		{"the greatest length", frameWith(ahead, 1, 65535, 0, pattern(20000))},
		{"a length that is short", frameWith(ahead, 2, 299, 0, body)},
		{"a length that is long", frameWith(ahead, 2, 301, 0, body)},
		{"another check byte", frameWith(ahead, 2, 300, 1, body)},
		{"no check byte", frameWith(ahead, 2, 300, 0xa5^2^1^44, body)},
		{"the sum of it alone", frameWith(nil, 2, 300, 0, body)},
		{"the sum of another", frameWith([]byte{1, 2, 3, 4}, 2, 300, 0, body)},
		{"another body", changed(whole, 200, 0)},
		{"another sum", changed(whole, len(whole)-1, whole[len(whole)-1]+1)},
		{"no byte of the body", []byte{2, 0, 1, 0xa6}},
		{"zeros", make([]byte, 8)},
	}
	for _, n := range []int{1, 2, 3, 4, 5, 7, 8, 100, 303, 304, 305, 307} {
		l = append(l, named{"the first " + strconv.Itoa(n), whole[:n]})
	}
	return l
}

// TestNotWhole: 12.2 and P12.3, the reading ends ahead of a frame that is not whole, whatever follows.
func TestNotWhole(t *testing.T) {
	l := []api.Record{rec(1, "one"), rec(2, ""), rec(3, "three")}
	for _, generation := range []int{1, 2, api.MaxCount - 1, api.MaxCount} {
		want := api.OK
		if generation == api.MaxCount {
			want = api.ErrSpent
		}
		for n := range len(l) + 1 {
			f := file(generation, 0, l[:n]...)
			for _, bad := range notWhole(f[len(f)-4:]) {
				torn := append(bytes.Clone(f), bad.bytes...)
				for _, g := range [][]byte{torn, behind(torn, l...)} {
					if p := parse(g); p.clean || !sameRecords(p.records, l[:n]) {
						t.Fatalf("the test is wrong: %s", bad.name)
					}
					for _, d := range []api.Disk{{A: g}, {B: g}, {A: g, B: pattern(30)}, {A: file(generation-1, 0, rec(1, "old")), B: g}} {
						if e := wantGoesOn(t, d); e != want {
							t.Fatalf("P12.3: %s: error %d, want %d", bad.name, e, want)
						}
					}
				}
			}
		}
	}
}

// TestOpenSpent: ErrSpent, just where a file is not clean at the last generation.
func TestOpenSpent(t *testing.T) {
	f := file(api.MaxCount, 1, rec(1, "a"), rec(2, "b"))
	for _, g := range [][]byte{append(bytes.Clone(f), 0), f[:len(f)-1], changed(f, len(f)-1, f[len(f)-1]^1)} {
		refused(t, api.Disk{A: g}, api.ErrSpent)
		refused(t, api.Disk{B: g}, api.ErrSpent)
		refused(t, api.Disk{A: file(5, 1, rec(1, "c")), B: g}, api.ErrSpent)
		refused(t, api.Disk{A: g, B: f}, api.ErrSpent) // A counts of two alike
		wantRecords(t, api.Disk{A: f, B: g}, parse(f).records)
	}
	wantRecords(t, api.Disk{A: f[:len(f)-9]}, []api.Record{rec(1, "a")}) // cut off just behind a frame
	if e := wantGoesOn(t, api.Disk{A: append(file(api.MaxCount-1, 0, rec(2, "x")), 7)}); e != api.OK {
		t.Errorf("P12.3: the last generation can be begun, error %d", e)
	}
}

// TestNewFileFits: what Open begins is no longer than what it read, and counts from then on.
func TestNewFileFits(t *testing.T) {
	r := rand.New(rand.NewSource(2))
	for range 20 {
		f := file(1+r.Intn(1000), 0)
		for len(f) < api.MaxFile-5000 {
			f = behind(f, drawn(r))
		}
		f = f[:len(f)-1]
		d := api.Disk{A: f, B: randomBytes(r, 100)}
		j, m, w, _ := wantOpen(t, d)
		if len(w) != 1 || len(w[0].Bytes) >= len(f) || j.Size() != len(w[0].Bytes) {
			t.Fatalf("P12.3: %s of a file of %d bytes", shownWrites(w), len(f))
		}
		wantRecords(t, all(d, w), m.records)
	}
}

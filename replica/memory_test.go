package replica_test

import (
	"bytes"
	"runtime"
	"slices"
	"strings"
	"testing"

	"quorate/api"
	"quorate/replica"
)

// full is a list with its spare room.
func full[T any](l []T) []T { return l[:cap(l)] }

// roomy is the same list with room behind it that is not the callee's to write.
func roomy[T any](l []T) []T {
	return append(slices.Clone(l), make([]T, 5)...)[:len(l)]
}

// fill writes one thing over a list and its spare room.
func fill[T any](l []T, x T) {
	for i := range full(l) {
		full(l)[i] = x
	}
}

// wantUntouched makes a call and looks whether a list that it is handed, or its spare room, changes.
func wantUntouched[T comparable](t *testing.T, what string, l []T, call func()) {
	t.Helper()
	before := slices.Clone(full(l))
	call()
	if !slices.Equal(full(l), before) {
		t.Fatalf("rule 5: %s changed what it was handed", what)
	}
}

// course is a whole course of notes of one replica, with a switch and entries done in all ways.
func course() []api.Note {
	l := many(6)
	c, d := set(1, 1, 11, "z", "x"), set(0, 1, 12, "y", "y")
	return []api.Note{
		install(viewOf(5, 0, 1)), deliver(1, 1, stateBlob(state(3, 2, l[:4]...))), deliver(0, 2, stateBlob(state(2, 1, l...))), safe(1),
		deliver(1, 3, commandBlob(3, c)), deliver(0, 4, commandBlob(0, d)), deliver(0, 5, []byte{2, 0}), safe(3), safe(4),
		install(viewOf(6, 0, 1)), deliver(1, 1, stateBlob(state(5, 0))), deliver(1, 2, stateBlob(state(5, 0))), deliver(0, 2, stateBlob(state(5, 6, l...))), safe(9), {Kind: api.NoteBlock},
		install(viewOf(7, 0)), {Kind: api.NoteHalt},
	}
}

// recorded is records of all kinds.
func recorded() []api.Record {
	l := many(6)
	return []api.Record{recPromise(1), recAppend(l[0]), recAppend(l[1]), recSafe(1), recState(1, state(1, 1, l[:3]...)), recAppend(l[4]), recSafe(2)}
}

// TestArgumentsStay: rule 5, what is handed in is not changed, be it taken or refused.
func TestArgumentsStay(t *testing.T) {
	r := made(t, config(3), 0, 1, recorded()...)
	for _, n := range course() {
		n.Body, n.View.Members, n.Trans = roomy(n.Body), roomy(n.View.Members), roomy([]int{1, 2})
		wantUntouched(t, "Take", n.Body, func() {
			wantUntouched(t, "Take", n.View.Members, func() {
				wantUntouched(t, "Take", n.Trans, func() { r.Take(n) })
			})
		})
	}
	for kind := range 6 {
		for _, x := range recorded() {
			c := config(3)
			c.Votes = roomy(c.Votes)
			l := roomy([]api.Record{{Kind: kind, Body: roomy(x.Body)}})
			wantUntouched(t, "New", l[0].Body, func() {
				wantUntouched(t, "New", c.Votes, func() {
					replica.New(c, 0, 1, l)
					replica.Promise(l)
				})
			})
			if len(l) != 1 || l[0].Kind != kind || full(l)[1].Body != nil {
				t.Fatal("rule 5: New changed its list of records")
			}
		}
	}
}

// TestArgumentsAreNotKept: rule 5, what is written into arguments behind the call changes nothing.
func TestArgumentsAreNotKept(t *testing.T) {
	c, l := config(3), recorded()
	plain := made(t, config(3), 0, 1, recorded()...)
	r := made(t, c, 0, 1, l...)
	fill(c.Votes, 0)
	for _, x := range l {
		fill(x.Body, 0x5a)
	}
	fill(l, api.Record{})
	for _, n := range course() {
		mine := n
		mine.Body, mine.View.Members = roomy(n.Body), roomy(n.View.Members)
		want := plain.Take(n)
		if e := r.Take(mine); e != want {
			t.Fatalf("rule 5: Take(%+v): error %d, want %d", n, e, want)
		}
		fill(mine.Body, 0x5a)
		fill(mine.View.Members, api.Member{Pid: 2, Inc: 9, Cid: 9})
		wantFace(t, "rule 5: behind writing into what was handed in", faceOf(r), faceOf(plain))
		wantMarks(t, r, plain.Marks()...)
		wantRecords(t, r, plain.Records()...)
	}
}

// scribble takes all answers of a replica and writes over them.
func scribble(r *replica.Replica) {
	b, _ := r.Next()
	fill(b, 0x5a)
	fill(r.Checkpoint().Body, 0x5a)
	fill(r.Snapshot(), 0x5a)
	fill(r.Pairs(), api.Pair{Key: "mine"})
	fill(r.Log(), api.Command{Client: 9})
}

// TestAnswersApart: rule 5, what is written into answers changes neither the replica nor another answer.
func TestAnswersApart(t *testing.T) {
	plain, r := made(t, config(3), 0, 1, recorded()...), made(t, config(3), 0, 1, recorded()...)
	for _, n := range course() {
		plain.Take(n)
		r.Take(n)
		f := faceOf(r)
		scribble(r)
		wantFace(t, "rule 5: answers that were told ahead", f, faceOf(plain))
		wantFace(t, "rule 5: behind writing into answers", faceOf(r), faceOf(plain))
		marks, records := r.Marks(), r.Records()
		if !slices.EqualFunc(marks, plain.Marks(), sameMark) || !slices.EqualFunc(records, plain.Records(), sameRecord) {
			t.Fatalf("rule 5: behind %+v marks or records are others", n)
		}
		fill(marks, api.Mark{Kind: 99})
		for _, x := range records {
			fill(x.Body, 0x5a)
		}
		fill(records, api.Record{Kind: 99})
	}
}

// TestBytesApart: rule 5, all lists of bytes that are answered share no memory with one another, their spare room neither.
func TestBytesApart(t *testing.T) {
	var lists [][]byte
	for range 2 {
		r := made(t, config(3), 0, 1, recorded()...)
		for _, n := range course() {
			n.Body = roomy(n.Body)
			r.Take(n)
			for range 2 {
				b, _ := r.Next()
				lists = append(lists, b, r.Checkpoint().Body, r.Snapshot())
			}
			lists = append(lists, n.Body)
			for _, x := range r.Records() {
				lists = append(lists, x.Body)
			}
		}
	}
	for k, b := range lists {
		fill(b, byte(k))
	}
	for k, b := range lists {
		for _, x := range full(b) {
			if x != byte(k) {
				t.Fatal("rule 5: two lists share memory")
			}
		}
	}
}

// TestListsStay: rule 5, lists that were taken out stay as they were, whatever comes then.
func TestListsStay(t *testing.T) {
	l := many(9)
	r := adopted(t, config(3), 0, viewOf(5, 0, 1), state(0, 0, l[:5]...))
	log := r.Log()
	taken(t, r, deliver(1, 3, commandBlob(2, set(1, 1, 50, "z", "x"))))
	marks, records := r.Marks(), r.Records()
	taken(t, r, deliver(1, 4, commandBlob(4, set(1, 1, 51, "z", "x"))), safe(9), deliver(1, 10, commandBlob(7, set(1, 1, 52, "z", "x"))))
	if !slices.Equal(log, l[:5]) {
		t.Errorf("rule 5: the log has become %v", log)
	}
	if len(marks) != 2 || marks[0].N != 1 || marks[1].N != 2 || len(records) != 2 || !bytes.Equal(records[0].Body, counts(2)) {
		t.Errorf("rule 5: what was taken out has become %v, %v", marks, records)
	}
}

// TestOnlyItsOwnCalls: rule 6, other replicas change nothing.
func TestOnlyItsOwnCalls(t *testing.T) {
	plain, r := made(t, config(3), 0, 1), made(t, config(3), 0, 1)
	for i, n := range course() {
		other := made(t, config(3), 0, 1, recorded()...)
		for _, x := range course()[:len(course())-1-i%3] {
			other.Take(x)
		}
		other.Submit(set(0, 0, 0, "a", "x"))
		plain.Take(n)
		r.Take(n)
		wantFace(t, "rule 6", faceOf(r), faceOf(plain))
	}
}

func heapInUse() int {
	runtime.GC()
	runtime.GC()
	var s runtime.MemStats
	runtime.ReadMemStats(&s)
	return int(s.HeapAlloc)
}

// TestKeepsLittle: rules 5 and 8: a replica keeps neither the bytes that it was handed, nor the texts that a command's were cut from, nor the states behind the switch.
func TestKeepsLittle(t *testing.T) {
	before := heapInUse()
	var l []*replica.Replica
	for n := range 100 {
		wide := strings.Repeat("7", 100000+n)
		body := append(stateBlob(state(0, 0)), make([]byte, 100000)...)
		body = body[:len(body)-100000]
		record := recAppend(set(0, 9, 1, "k", "v"))
		record.Body = append(record.Body, make([]byte, 100000)...)[:len(record.Body)]
		v := viewOf(5, 0, 1)
		v.Members = append(v.Members, make([]api.Member, 10000)...)[:2]
		r := made(t, config(3), 0, 1, record)
		taken(t, r, install(v), deliver(0, 1, body), deliver(1, 2, body), safe(2))
		wantSubmit(t, r, api.Command{Op: api.OpCas, Key: wide[:8], Val: wide[10:18], Old: wide[20:28]}, 1, api.OK)
		if n%2 == 0 {
			taken(t, r, install(viewOf(6, 0, 1)))
		}
		quiet(r)
		l = append(l, r)
	}
	if grown := heapInUse() - before; grown > 100*8000 {
		t.Errorf("rule 8: 100 replicas keep %d bytes", grown)
	}
	runtime.KeepAlive(l)
}

// TestStatesGone: rule 8, behind the switch the members' states are not kept.
func TestStatesGone(t *testing.T) {
	s := longest()
	s.Epoch = 1
	b := stateBlob(s)
	v := viewOf(5, 0, 1, 2, 3, 4, 5, 6, 7, 8, 9, 10, 11, 12, 13, 14, 15)
	before := heapInUse()
	var l []*replica.Replica
	for range 20 {
		r := joining(t, config(16), 0, v)
		for p := range 16 {
			taken(t, r, deliver(p, p+1, b))
		}
		quiet(r)
		l = append(l, r)
	}
	if grown := heapInUse() - before; grown > 20*30000 {
		t.Errorf("rule 8: 20 replicas keep %d bytes", grown)
	}
	runtime.KeepAlive(l)
}

// TestGrowsNot: P12 and rule 8, a replica that is long at work keeps what its log needs.
func TestGrowsNot(t *testing.T) {
	r := made(t, config(3), 0, 1)
	epoch := 0
	work := func() {
		for range 100 {
			epoch++
			taken(t, r, install(viewOf(epoch, 0, 1)))
			own, _ := r.Next()
			taken(t, r, deliver(0, 1, own), deliver(1, 2, own), safe(2))
			r.Sent()
			for n := range 100 {
				base := r.Status().Base
				taken(t, r, deliver(n%2, 3+n, commandBlob(base, set(n%2, 1, 1+epoch*100+n, "a", "b"))), safe(2+n))
			}
			quiet(r)
		}
	}
	work()
	before := heapInUse()
	work()
	if grown := heapInUse() - before; grown > 20000 {
		t.Errorf("rule 8: it keeps %d bytes more", grown)
	}
	if n := len(r.Log()); n > api.MaxNodes {
		t.Errorf("P12: a tail of %d entries", n)
	}
	runtime.KeepAlive(r)
}

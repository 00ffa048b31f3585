package machine

import (
	"quorate/api"
	"quorate/wire"
)

// sumSize is how many bytes a sum has.
const sumSize = 4

// writer puts bytes together.
type writer struct {
	bytes []byte
}

func (w *writer) counts(counts ...int) {
	for _, n := range counts {
		b, _ := wire.PutInt(nil, n) // what a machine holds can be written
		w.bytes = append(w.bytes, b...)
	}
}

// texts writes each with its length ahead of it.
func (w *writer) texts(texts ...string) {
	for _, text := range texts {
		w.counts(len(text))
		w.bytes = append(w.bytes, text...)
	}
}

// sumOf is the sum of bytes as it is written, its lowest byte first.
func sumOf(b []byte) []byte {
	sum := wire.Sum(b)
	l := make([]byte, sumSize)
	for i := range l {
		l[i] = byte(sum >> (8 * i))
	}
	return l
}

// reader reads bytes. Whatever is amiss ends the whole reading by a panic, which the face recovers: so no step hands an error on.
type reader struct {
	bytes []byte
	at    int
}

// need gives up if something is amiss.
func need(ok bool) {
	if !ok {
		panic(api.ErrForm)
	}
}

// end gives up if there is more to read.
func (r *reader) end() { need(r.at == len(r.bytes)) }

// count reads a count from low to high.
func (r *reader) count(low, high int) int {
	n, next, e := wire.TakeInt(r.bytes, r.at)
	need(e == api.OK && within(n, low, high))
	r.at = next
	return n
}

func (r *reader) anyCount() int { return r.count(0, api.MaxCount) }

func (r *reader) client() int { return r.count(0, api.MaxNodes-1) }

// take reads so many bytes, as a copy.
func (r *reader) take(size int) string {
	need(len(r.bytes)-r.at >= size)
	r.at += size
	return string(r.bytes[r.at-size : r.at])
}

// text reads one of low to high bytes, its length ahead of it.
func (r *reader) text(low, high int) string { return r.take(r.count(low, high)) }

package journal

import (
	"quorate/api"
	"quorate/wire"
)

// reader reads a file from its beginning on. Whatever is damaged ends the whole reading by a panic, which read recovers: so no step hands an error on.
type reader struct {
	file []byte
	at   int
}

// take reads so many bytes.
func (r *reader) take(size int) []byte {
	if len(r.file)-r.at < size {
		panic(api.ErrTorn)
	}
	r.at += size
	return r.file[r.at-size : r.at]
}

// number reads a number of so many bytes, from low to high.
func (r *reader) number(size, low, high int) int {
	n := numberOf(r.take(size))
	if n < uint64(low) || n > uint64(high) {
		panic(api.ErrTorn)
	}
	return int(n)
}

// expect reads the one number that may stand here.
func (r *reader) expect(size, n int) { r.number(size, n, n) }

// head reads a file's generation and count.
func (r *reader) head() (generation, count int) {
	if string(r.take(len(mark))) != mark {
		panic(api.ErrTorn)
	}
	generation = r.number(generationSize, 1, api.MaxCount)
	count = r.number(countSize, 0, mostCount)
	r.expect(sumSize, wire.Sum(r.file[:r.at]))
	return generation, count
}

// frame reads the next record; it is a copy.
func (r *reader) frame() api.Record {
	start := r.at
	kind := r.number(kindSize, api.RecState, api.RecPromise)
	length := r.number(lengthSize, 0, api.MaxRecord)
	r.expect(checkSize, checkOf(r.file[start:r.at]))
	body := r.take(length)
	r.expect(sumSize, wire.Sum(r.file[start-sumSize:r.at]))
	return copied(api.Record{Kind: kind, Body: body})
}

// contents is what the reading of a file has found.
type contents struct {
	journal Journal // at the file's end; its generation is 0, if the head is not whole
	count   int
	records recordList
	isClean bool
}

// read reads a file to its end, or as far as it is whole.
func read(number int, file []byte) (found contents) {
	defer func() { recover() }() // what was found ahead of the damage stays
	if len(file) > api.MaxFile {
		panic(api.ErrLong)
	}
	r := reader{file: file}
	generation, count := r.head()
	found.journal = Journal{file: number, generation: generation, size: len(file), sum: lastSum(file)}
	found.count = count
	for r.at < len(file) {
		found.records = append(found.records, r.frame())
	}
	found.isClean = true
	return found
}

// isSound tells whether a file was begun whole.
func (c contents) isSound() bool {
	return c.journal.generation > 0 && len(c.records) >= c.count
}

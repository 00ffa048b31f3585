package link

// cell is a place of a ring: a thing and its number (0: the place is free).
type cell[T any] struct {
	number int
	thing  T
}

// stream keeps things by their numbers, which begin with 1: only such as stand behind what has passed. Its ring is never shorter than from there to the greatest number kept, so no two of them share a place.
type stream[T any] struct {
	passed int // the number up to which all things have passed
	ring   []cell[T]
}

// place is where a number's thing stands in a ring that is not empty.
func place[T any](ring []cell[T], number int) *cell[T] { return &ring[number%len(ring)] }

// has tells whether the thing of a number is kept.
func (s *stream[T]) has(number int) bool {
	return len(s.ring) > 0 && place(s.ring, number).number == number
}

// put keeps a thing whose number is behind what has passed.
func (s *stream[T]) put(number int, thing T) {
	if ahead := number - s.passed; ahead > len(s.ring) {
		s.ring = widened(s.ring, ahead)
	}
	*place(s.ring, number) = cell[T]{number, thing}
}

// widened is a ring of the same things with at least so many places; twice as many at least, so that a stream that grows piece by piece is not copied at each.
func widened[T any](ring []cell[T], places int) []cell[T] {
	wide := make([]cell[T], max(places, 2*len(ring)))
	for _, c := range ring {
		if c.number > 0 {
			*place(wide, c.number) = c
		}
	}
	return wide
}

// pass lets all things up to a number be kept no more; those that were not yet passed are all there.
func (s *stream[T]) pass(upto int) {
	for s.passed < upto {
		s.passed++
		*place(s.ring, s.passed) = cell[T]{}
	}
}

// next lists the things behind what has passed, up to the first that is missing, at most so many.
func next[T any](s *stream[T], most int) []T {
	var list []T
	for len(list) < most && s.has(s.passed+len(list)+1) {
		list = append(list, place(s.ring, s.passed+len(list)+1).thing)
	}
	return list
}

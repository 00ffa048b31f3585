package audit

import "quorate/api"

// every stands for the kind where a rule looks at the marks of all kinds.
const every = 0

// rule is one that the marks of a kind must keep.
type rule struct {
	number, kind int
	holds        func(m api.Mark) bool
}

// judge holds marks against rules, one mark behind the other.
type judge struct {
	rules []rule           // by their numbers
	keep  func(m api.Mark) // what a mark tells that broke none
}

// look is the number of the first rule that a mark breaks; 0: none.
func (j judge) look(m api.Mark) int {
	for _, r := range j.rules {
		if (r.kind == every || r.kind == m.Kind) && !r.holds(m) {
			return r.number
		}
	}
	j.keep(m)
	return 0
}

// walk goes through the marks up to the first one that breaks a rule.
func walk(l []api.Mark, broken func(m api.Mark) int) api.Verdict {
	for at, m := range l {
		if number := broken(m); number != 0 {
			return api.Verdict{Rule: number, At: at}
		}
	}
	return api.Verdict{}
}

// who is an incarnation.
type who struct{ pid, inc int }

// maker is the incarnation whose mark it is.
func maker(m api.Mark) who { return who{m.Node, m.Inc} }

package replica

import (
	"errors"

	"quorate/api"
)

// refusal is the reason for which something is refused, and what was amiss. The reason is the number that a call answers.
type refusal struct {
	amiss  string
	reason error
}

func (r refusal) Error() string { return r.amiss + ": " + r.reason.Error() }

func (r refusal) Unwrap() error { return r.reason }

// numberOf is what a call answers that was refused for a reason, or for none.
func numberOf(err error) api.Errno {
	for _, e := range []api.Errno{api.ErrHalted, api.ErrNote, api.ErrState, api.ErrRecord} {
		if errors.Is(err, e) {
			return e
		}
	}
	return api.OK
}

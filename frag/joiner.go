package frag

import (
	"quorate/api"
	"quorate/wire"
)

// part is what is held of a sender: nothing, if it is zero.
type part struct {
	next head   // of the chunk that goes on with it; no chunk with a place above 0 has the zero head
	blob []byte // of its whole length; its bytes are here up to next.place
}

// Joiner joins the chunks of many senders.
type Joiner struct {
	parts []part // by sender
}

// New makes a joiner for so many nodes.
func New(nodes int) (*Joiner, api.Errno) {
	if !within(nodes, 1, api.MaxNodes) {
		return nil, api.ErrArg
	}
	return &Joiner{parts: make([]part, nodes)}, api.OK
}

// isSender tells whether a number is a sender's.
func (j *Joiner) isSender(p int) bool { return within(p, 0, len(j.parts)-1) }

// Take takes a sender's next chunk: the blob, if it is whole now.
func (j *Joiner) Take(sender int, chunk []byte) ([]byte, bool, api.Errno) {
	if !j.isSender(sender) {
		return nil, false, api.ErrArg
	}
	h, piece, ok := opened(chunk)
	if !ok {
		return nil, false, api.ErrChunk
	}
	held := &j.parts[sender]
	if h.place == 0 {
		*held = part{next: h, blob: make([]byte, h.size)}
	}
	if h != held.next {
		return nil, false, api.ErrChunk
	}
	held.next.place += copy(held.blob[h.place:], piece)
	if held.next.place < h.size {
		return nil, false, api.OK
	}
	blob := held.blob
	*held = part{}
	if wire.Sum(blob) != h.sum {
		return nil, false, api.ErrChunk
	}
	return blob, true, api.OK
}

// Held is how many bytes of a sender's blob are here and not whole.
func (j *Joiner) Held(sender int) int {
	if !j.isSender(sender) {
		return 0
	}
	return j.parts[sender].next.place
}

// Reset forgets all that is not whole.
func (j *Joiner) Reset() { clear(j.parts) }

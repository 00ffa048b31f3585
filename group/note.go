package group

import "quorate/api"

// happening is what has happened inside: begun, installed, delivered, safe or halted.
type happening any

// begun: a change has begun in a view.
type begun struct{}

// installed: a view, who came along, how many own blobs did not.
type installed struct {
	view  api.View
	trans []int
	lost  int
}

// delivered: a blob is whole.
type delivered struct {
	sender, seq, pos int
	blob             []byte
}

// safe: all members have delivered up to here.
type safe struct{ pos int }

// halted: nothing happens any more.
type halted struct{}

// noteOf is how a happening is told upwards.
func noteOf(h happening) api.Note {
	switch x := h.(type) {
	case begun:
		return api.Note{Kind: api.NoteBlock}
	case installed:
		return api.Note{Kind: api.NoteInstall, View: x.view, Trans: x.trans, Lost: x.lost}
	case delivered:
		return api.Note{Kind: api.NoteDeliver, Sender: x.sender, Seq: x.seq, Pos: x.pos, Body: x.blob}
	case safe:
		return api.Note{Kind: api.NoteSafe, Pos: x.pos}
	case halted:
		return api.Note{Kind: api.NoteHalt}
	}
	return api.Note{}
}

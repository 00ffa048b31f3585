package node

import "quorate/api"

// settle lets the group's notes and the replica's blobs work, until there are none that can.
func (s *step) settle() {
	for {
		heard := s.takeNotes()
		if s.halted {
			return
		}
		if sent := s.sendWaiting(); !heard && !sent {
			return
		}
	}
}

// takeNotes takes the group's notes up to a halt: whether there were any.
func (s *step) takeNotes() bool {
	notes := s.Poll()
	for _, n := range notes {
		s.takeNote(n)
		if s.halted {
			break
		}
	}
	return len(notes) > 0
}

// takeNote tells a note and hands it to the replica. What comes of it is written and told ahead of the next note.
func (s *step) takeNote(n api.Note) {
	if n.Kind == api.NoteInstall {
		s.view = n.View.ID
	}
	s.tell(markOf(n, s.view))
	s.handOn(n)
	if e := s.writeRecords(); e != api.OK {
		s.stop(e)
		return
	}
	s.tell(s.Marks()...)
	s.halted = n.Kind == api.NoteHalt
}

// markOf is how a note is told in the trace, in the view to which it belongs.
func markOf(n api.Note, view api.ViewID) api.Mark {
	switch n.Kind {
	case api.NoteBlock:
		return api.Mark{Kind: api.MarkBlock, ID: view}
	case api.NoteInstall:
		return api.Mark{Kind: api.MarkInstall, ID: view, Members: n.View.Members, Trans: n.Trans, N: n.Lost}
	case api.NoteDeliver:
		return api.Mark{Kind: api.MarkDeliver, ID: view, Sender: n.Sender, Seq: n.Seq, Pos: n.Pos, Body: n.Body}
	case api.NoteSafe:
		return api.Mark{Kind: api.MarkSafe, ID: view, Pos: n.Pos}
	}
	return api.Mark{Kind: api.MarkHalt, N: spent}
}

// handOn lets the replica take a note, if it is none of a blob that is not a replica's. What it refuses is let go.
func (s *step) handOn(n api.Note) {
	if n.Kind == api.NoteDeliver {
		if len(n.Body) == 0 || n.Body[0] != ofReplica {
			return
		}
		n.Body = n.Body[1:]
	}
	s.Take(n)
}

// writeRecords appends to the journal what the replica has to be written.
func (s *step) writeRecords() api.Errno {
	for _, r := range s.Records() {
		ws, e := s.journal.Append(r)
		if e != api.OK {
			return e
		}
		s.out.Write = append(s.out.Write, ws...)
	}
	return api.OK
}

// sendWaiting gives the group what the replica has to be sent, as long as the group takes it: whether it took any.
func (s *step) sendWaiting() bool {
	sent := 0
	for b, has := s.Next(); has && s.sendBlob(ofReplica, b) == api.OK; b, has = s.Next() {
		s.Sent()
		sent++
	}
	return sent > 0
}

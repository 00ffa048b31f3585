package replica

import (
	"errors"
	"testing"

	"quorate/api"
)

// TestReasons: every reason is a value that is wrapped by what was amiss, and is asked with errors.Is.
func TestReasons(t *testing.T) {
	c := api.Config{Nodes: 1, Window: 1, Base: 1, Step: 1, Cap: 1, Room: 1, Votes: []int{1}}
	r, _ := New(c, 0, 1, nil)
	v := api.View{ID: api.ViewID{Epoch: 1, Lead: 0, Inc: 1, Cid: 1}, Members: []api.Member{{Pid: 0, Inc: 1, Cid: 1}}}
	for _, x := range []struct {
		n    api.Note
		want error
	}{
		{api.Note{Kind: 9}, api.ErrNote}, {api.Note{Kind: api.NoteDeliver}, api.ErrNote}, {api.Note{Kind: api.NoteSafe}, api.ErrNote}, {api.Note{Kind: api.NoteInstall}, api.ErrNote},
		{api.Note{Kind: api.NoteInstall, View: v}, nil}, {api.Note{Kind: api.NoteDeliver, Pos: 1}, api.ErrState}, {api.Note{Kind: api.NoteInstall, View: v}, api.ErrNote},
		{api.Note{Kind: api.NoteHalt}, nil}, {api.Note{Kind: api.NoteHalt}, api.ErrHalted},
	} {
		err := r.take(x.n)
		if x.want == nil && err == nil {
			continue
		}
		if err == x.want || !errors.Is(err, x.want) || numberOf(err) != x.want {
			t.Errorf("Ways: %+v is refused for %v, want %v, wrapped", x.n, err, x.want)
		}
	}
	_, err := readRecord(api.Record{Kind: api.RecSafe})
	if !errors.Is(err, api.ErrRecord) || err.Error() != "no count that can stand here: "+api.ErrRecord.Error() {
		t.Errorf("Ways: a record is refused for %v", err)
	}
}

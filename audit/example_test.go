package audit_test

import (
	"slices"
	"testing"

	"quorate/api"
	"quorate/audit"
)

// TestExamples: 17.6.
func TestExamples(t *testing.T) {
	one := marks(t, lines("0 boot 0 1", "0 boot 1 1", "0 install 0 1 id=1/0/1/1 members=0/1/1 trans=0"))
	wantLines(t, 7, one, `0 deliver 0 1 id=1/0/1/1 seq=1 pos=1 body="x"`)

	two := marks(t, "0 boot 0 1\n")
	wantLines(t, 2, two, "0 install 0 1 id=1/1/1/1 members=1/1/1 trans=0")
	wantLines(t, 1, two, "0 boot 0 2")

	three := marks(t, lines("0 boot 0 1", "0 install 0 1 id=1/0/1/1 members=0/1/1 trans=0", "0 send 0 1 id=1/0/1/1 seq=1", "0 block 0 1 id=1/0/1/1"))
	wantLines(t, 6, three, "0 send 0 1 id=1/0/1/1 seq=2")
	wantLines(t, 11, three, "0 install 0 1 id=2/0/1/2 members=0/1/2 trans=0")
	wantLines(t, 0, three, "0 install 0 1 id=2/0/1/2 members=0/1/2 trans=0 n=1")

	wantLines(t, 1, nil, "0 apply 0 1 n=1", "0 apply 0 1")
	wantAnswers(t, 25, []int{1}, nil, "0 apply 0 1 n=1", "0 apply 0 1 n=2", "0 apply 0 1 n=4611686018427387904")
	wantAnswers(t, 23, []int{1}, nil, "0 apply 0 1")
	wantService(t, 23, []int{1}, nil, api.Mark{Kind: api.MarkApply, Inc: 1, N: -1})

	wantAnswers(t, 28, []int{1}, nil, "0 reply 0 1", `0 reply 0 1 cmd=0/1/1/2/"a"/""/"" result=2/""/0`)
	wantAnswers(t, 28, []int{1}, marks(t, lines("0 boot 0 1", "0 install 0 1 id=1/0/1/1 members=0/1/1 trans=0", "0 adopt 0 1 id=1/0/1/1")), "0 reply 0 1")

	set, get, del, add := api.Command{Op: api.OpSet}, api.Command{Op: api.OpGet}, api.Command{Op: api.OpDel}, api.Command{Op: api.OpAdd}
	apply := func(n int, c api.Command) api.Mark { return api.Mark{Kind: api.MarkApply, N: n, Cmd: c} }
	six := []api.Mark{apply(1, set), apply(3, get), apply(2, del), apply(1, add)}
	if got := audit.History(six); !slices.Equal(got, []api.Command{set, del, get}) {
		t.Errorf("P17.4: History: %v", got)
	}
}

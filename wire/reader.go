package wire

import "quorate/api"

// reader reads a text count by count. Whatever is amiss ends the whole reading by a panic with the Errno, which the face recovers: so no step hands an error on.
type reader struct {
	text []byte
	at   int
}

// reason is the Errno that a reading gave up with. Nothing else is thrown here; if something were, the text would be refused rather than the caller thrown out.
func reason(thrown any) api.Errno {
	if e, ok := thrown.(api.Errno); ok {
		return e
	}
	return api.ErrPacket
}

// end gives up if there is more to read.
func (r *reader) end() {
	if r.at < len(r.text) {
		panic(api.ErrTail)
	}
}

// count reads a count from low to high.
func (r *reader) count(low, high int) int {
	v, next, e := TakeInt(r.text, r.at)
	if e != api.OK {
		panic(e)
	}
	if !within(v, low, high) {
		panic(api.ErrPacket)
	}
	r.at = next
	return v
}

func (r *reader) node() int { return r.count(0, api.MaxNodes-1) }

// bytes reads a list of low to high bytes.
func (r *reader) bytes(low, high int) []byte {
	n := r.count(low, high)
	if len(r.text)-r.at < n {
		panic(api.ErrShort)
	}
	l := make([]byte, n)
	copy(l, r.text[r.at:])
	r.at += n
	return l
}

// nodeList reads a list of counts by node.
func (r *reader) nodeList() []int {
	l := make([]int, r.count(1, api.MaxNodes))
	for i := range l {
		l[i] = r.count(0, api.MaxCount)
	}
	return l
}

// vec reads a list that has a count for each of set, and 0 where set has 0.
func (r *reader) vec(set []int) []int {
	l := make([]int, r.count(len(set), len(set)))
	for i := range l {
		l[i] = r.count(0, mostOfVec(set[i]))
	}
	return l
}

// id reads a whole ID.
func (r *reader) id() api.ViewID {
	return r.idBehind(r.count(1, api.MaxCount))
}

// idOrNone reads a whole ID, or the one count 0 that stands for none.
func (r *reader) idOrNone() api.ViewID {
	epoch := r.count(0, api.MaxCount)
	if epoch == 0 {
		return api.ViewID{}
	}
	return r.idBehind(epoch)
}

// idBehind reads what follows a whole ID's Epoch.
func (r *reader) idBehind(epoch int) api.ViewID {
	id := api.ViewID{Epoch: epoch}
	id.Lead = r.node()
	id.Inc = r.count(1, api.MaxCount)
	id.Cid = r.count(1, api.MaxCount)
	return id
}

func (r *reader) slot() api.Slot {
	var s api.Slot
	s.Sender = r.node()
	s.Seq = r.count(1, api.MaxCount)
	return s
}

// data reads a data that stands behind ahead in a rising list; behind the zero data every valid one may stand.
func (r *reader) data(ahead api.Data) api.Data {
	var d api.Data
	d.Sender = r.count(ahead.Sender, api.MaxNodes-1)
	least := 1
	if d.Sender == ahead.Sender {
		least = ahead.Seq + 1
	}
	d.Seq = r.count(least, api.MaxCount)
	d.Stable = r.count(0, api.MaxCount)
	d.Body = r.bytes(0, api.MaxChunk)
	return d
}

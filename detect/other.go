package detect

// timeout says how many ticks a node may be silent, and learns from wrong suspicions.
type timeout interface {
	howLong() int
	grow()
}

// rising is a timeout that each wrong suspicion makes longer by a step, up to a limit.
type rising struct {
	ticks, step, limit int
}

func (r *rising) howLong() int { return r.ticks }

func (r *rising) grow() { r.ticks = min(r.limit, r.ticks+r.step) }

// other is what is kept of another node. Its timeout tells how slow the path is: so a new incarnation keeps the grown one.
type other struct {
	timeout
	known  int // the greatest incarnation of which a beat was taken; 0: none was
	last   int // the tick of its last beat
	age    int // own ticks since; it stands still while the node is not heard
	wrong  int
	heard  bool
	mutual bool // whether the last beat says that this very incarnation is heard there
}

// growOlder lets one tick go by over a node that is heard.
func (o *other) growOlder() {
	o.age++
	o.heard = o.age <= o.howLong()
}

// suspected tells whether the node was heard once and is not now.
func (o *other) suspected() bool { return !o.heard && o.known > 0 }

// Package wire: packets and items as bytes: see DOC.md and doc/01-wire.md.
package wire

import "quorate/api"

// mark stands at the front of every packet's text: two letters and the version.
const mark = "QV\x01"

const (
	kindPlace = len(mark)     // where a packet's text tells its kind
	headPlace = kindPlace + 1 // where its counts begin
	sumSize   = 4             // the bytes of its sum
	leastSize = 12            // a text of fewer bytes is no packet's, whatever it holds
)

// within tells whether v is from low to high.
func within(v, low, high int) bool { return low <= v && v <= high }

// leastDstInc is the least DstInc of a kind: a beat may go to whatever incarnation is there.
func leastDstInc(kind int) int {
	if kind == api.KindBeat {
		return 0
	}
	return 1
}

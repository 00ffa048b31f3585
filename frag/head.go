package frag

import "quorate/api"

// head is what a chunk tells ahead of its piece.
type head struct {
	size  int // the blob's length
	place int // where in the blob the piece begins
	sum   int // the blob's
}

// pieceLength is how many bytes the piece has.
func (h head) pieceLength() int { return min(pieceSize, h.size-h.place) }

// isPlaced tells whether some blob has a piece there.
func (h head) isPlaced() bool {
	isEmpty := h.size == 0 && h.place == 0
	return h.size <= api.MaxBlob && h.place%pieceSize == 0 && (h.place < h.size || isEmpty)
}

// put writes the head to a chunk's beginning.
func (h head) put(chunk []byte) {
	putNumber(chunk[:2], h.size)
	putNumber(chunk[2:4], h.place)
	putNumber(chunk[4:headSize], h.sum)
}

// opened gives a chunk's head and its piece, if the bytes have a chunk's form.
func opened(chunk []byte) (head, []byte, bool) {
	if len(chunk) < headSize {
		return head{}, nil, false
	}
	h := head{size: number(chunk[:2]), place: number(chunk[2:4]), sum: number(chunk[4:headSize])}
	piece := chunk[headSize:]
	if !h.isPlaced() || len(piece) != h.pieceLength() {
		return head{}, nil, false
	}
	return h, piece, true
}

// putNumber fills b with a number, the highest byte first.
func putNumber(b []byte, n int) {
	for i := range b {
		b[i] = byte(n >> (8 * (len(b) - 1 - i)))
	}
}

// number is what putNumber wrote.
func number(b []byte) int {
	n := 0
	for _, x := range b {
		n = n<<8 | int(x)
	}
	return n
}

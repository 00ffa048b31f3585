package wire

// sumTable tells what four steps of the sum make of each low half byte. (A table for whole bytes would be sixteen times as long.)
var sumTable = [16]uint32{
	0x00000000, 0x1db71064, 0x3b6e20c8, 0x26d930ac,
	0x76dc4190, 0x6b6b51f4, 0x4db26158, 0x5005713c,
	0xedb88320, 0xf00f9344, 0xd6d6a3e8, 0xcb61b38c,
	0x9b64c2b0, 0x86d3d2d4, 0xa00ae278, 0xbdbdf21c,
}

// Sum is the CRC-32 of bytes.
func Sum(b []byte) int {
	word := ^uint32(0)
	for _, c := range b {
		word ^= uint32(c)
		word = word>>4 ^ sumTable[word%16]
		word = word>>4 ^ sumTable[word%16]
	}
	return int(^word)
}

// putSum appends the sum of all of b, its lowest byte first.
func putSum(b []byte) []byte {
	s := Sum(b)
	return append(b, byte(s), byte(s>>8), byte(s>>16), byte(s>>24))
}

// toldSum is the sum that the last bytes of a packet's text tell.
func toldSum(b []byte) int {
	s := 0
	for i, c := range b[len(b)-sumSize:] {
		s |= int(c) << (8 * i)
	}
	return s
}

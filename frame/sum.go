package frame

// numberSize is how many bytes a number has, the lowest first.
const numberSize = 4

func appendNumber(b []byte, n uint32) []byte {
	return append(b, byte(n), byte(n>>8), byte(n>>16), byte(n>>24))
}

func number(b []byte) uint32 {
	return uint32(b[0]) | uint32(b[1])<<8 | uint32(b[2])<<16 | uint32(b[3])<<24
}

// A sum takes four bits at a time: a table for whole bytes would be too great to stand here.
const (
	stepBits = 4
	stepMask = 1<<stepBits - 1
)

// remainders are what is left of four bits, the lowest first, when they are divided by the polynomial of CRC-32 (IEEE).
var remainders = [1 << stepBits]uint32{
	0x00000000, 0x1db71064, 0x3b6e20c8, 0x26d930ac, 0x76dc4190, 0x6b6b51f4, 0x4db26158, 0x5005713c,
	0xedb88320, 0xf00f9344, 0xd6d6a3e8, 0xcb61b38c, 0x9b64c2b0, 0x86d3d2d4, 0xa00ae278, 0xbdbdf21c,
}

// sum is the CRC-32 (IEEE) of all parts, one behind the other.
func sum(parts ...[]byte) uint32 {
	left := ^uint32(0)
	for _, part := range parts {
		for _, b := range part {
			left ^= uint32(b)
			left = remainders[left&stepMask] ^ left>>stepBits
			left = remainders[left&stepMask] ^ left>>stepBits
		}
	}
	return ^left
}

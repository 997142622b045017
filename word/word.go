// Package word turns words of 32 bits into bytes and back, the lowest byte first, as hash and cipher both count (octet's numbers have their highest byte first).
package word

const size = 4

// Read fills words by bytes; what lacks its four bytes is left as it is.
func Read(to []uint32, b []byte) {
	for i := range min(len(to), len(b)/size) {
		x := b[size*i:][:size]
		to[i] = uint32(x[0]) | uint32(x[1])<<8 | uint32(x[2])<<16 | uint32(x[3])<<24
	}
}

// Write fills bytes by words; what lacks its word, or room for it, is left as it is.
func Write(to []byte, l []uint32) {
	for i := range min(len(l), len(to)/size) {
		x := to[size*i:][:size]
		x[0], x[1], x[2], x[3] = byte(l[i]), byte(l[i]>>8), byte(l[i]>>16), byte(l[i]>>24)
	}
}

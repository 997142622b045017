package hash

import (
	"math/bits"

	"sealskin/word"
)

const (
	blockSize = 64
	rows      = 4

	sumMark = 0x01010020 // a digest of 32 bytes, of blocks that stand in one row
	keyMark = 0x100      // for each byte of the key
)

var first = [8]uint32{
	0x6a09e667, 0xbb67ae85, 0x3c6ef372, 0xa54ff53a,
	0x510e527f, 0x9b05688c, 0x1f83d9ab, 0x5be0cd19,
}

var orders = [10][16]uint8{
	{0, 1, 2, 3, 4, 5, 6, 7, 8, 9, 10, 11, 12, 13, 14, 15},
	{14, 10, 4, 8, 9, 15, 13, 6, 1, 12, 0, 2, 11, 7, 5, 3},
	{11, 8, 12, 0, 5, 2, 15, 13, 10, 14, 3, 6, 7, 1, 9, 4},
	{7, 9, 3, 1, 13, 12, 11, 14, 2, 6, 5, 10, 4, 0, 15, 8},
	{9, 0, 5, 7, 2, 4, 10, 15, 14, 1, 11, 12, 6, 8, 3, 13},
	{2, 12, 6, 10, 0, 11, 8, 3, 4, 13, 7, 5, 15, 14, 1, 9},
	{12, 5, 1, 15, 14, 13, 4, 10, 0, 7, 6, 3, 9, 2, 8, 11},
	{13, 11, 7, 14, 12, 1, 3, 9, 5, 0, 15, 4, 8, 6, 2, 10},
	{6, 15, 14, 9, 11, 3, 0, 8, 12, 2, 13, 7, 1, 4, 10, 5},
	{10, 2, 8, 4, 7, 6, 1, 5, 15, 11, 9, 14, 3, 12, 13, 0},
}

// state is what all blocks so far were folded into.
type state [8]uint32

func startState(keySize int) state {
	h := state(first)
	h[0] ^= sumMark ^ keyMark*uint32(keySize)
	return h
}

// fold takes a block in; upTo is how many bytes there are up to its end.
func (h *state) fold(block [blockSize]byte, upTo uint64, last bool) {
	var m words
	word.Read(m[:], block[:])
	v := h.spread(upTo, last)
	v.mix(m)
	for i := range h {
		h[i] ^= v[i] ^ v[i+len(h)]
	}
}

func (h *state) spread(upTo uint64, last bool) words {
	var v words
	copy(v[:], h[:])
	for i, x := range first {
		v[len(h)+i] = x
	}
	v[12] ^= uint32(upTo)
	v[13] ^= uint32(upTo >> 32)
	if last {
		v[14] = ^v[14]
	}
	return v
}

// words are a block's, or those in which one is mixed.
type words [16]uint32

func (v *words) mix(m words) {
	for _, o := range orders {
		for i := range rows {
			v.stir(i, 4+i, 8+i, 12+i, m[o[2*i]], m[o[2*i+1]])
		}
		for i := range rows {
			v.stir(i, 4+(i+1)%rows, 8+(i+2)%rows, 12+(i+3)%rows, m[o[8+2*i]], m[o[9+2*i]])
		}
	}
}

func (v *words) stir(a, b, c, d int, x, y uint32) {
	va, vb, vc, vd := v[a], v[b], v[c], v[d]
	va += vb + x
	vd = bits.RotateLeft32(vd^va, -16)
	vc += vd
	vb = bits.RotateLeft32(vb^vc, -12)
	va += vb + y
	vd = bits.RotateLeft32(vd^va, -8)
	vc += vd
	vb = bits.RotateLeft32(vb^vc, -7)
	v[a], v[b], v[c], v[d] = va, vb, vc, vd
}

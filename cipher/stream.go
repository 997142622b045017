package cipher

import (
	"math/bits"

	"sealskin/word"
)

const (
	streamKey = 32 // bytes of a key that the stream hangs on
	blockSize = 64
	doubles   = 10 // rounds down and across
	rows      = 4
)

var first = [4]uint32{0x61707865, 0x3320646e, 0x79622d32, 0x6b206574}

// words are what a block of a stream is made of, or that block.
type words [16]uint32

// start is the words of a stream's blocks, but for a block's own number.
func start(key [streamKey]byte, once uint64) words {
	var w words
	for i, x := range first {
		w[i] = x
	}
	word.Read(w[4:12], key[:])
	w[14], w[15] = uint32(once), uint32(once>>32)
	return w
}

// block is the stream's block n.
func (w words) block(n uint64) [blockSize]byte {
	w[12], w[13] = uint32(n), uint32(n>>32)
	x := w
	x.mix()
	for i := range x {
		x[i] += w[i]
	}
	var b [blockSize]byte
	word.Write(b[:], x[:])
	return b
}

func (x *words) mix() {
	for range doubles {
		for i := range rows {
			x.quarter(i, 4+i, 8+i, 12+i)
		}
		for i := range rows {
			x.quarter(i, 4+(i+1)%rows, 8+(i+2)%rows, 12+(i+3)%rows)
		}
	}
}

func (x *words) quarter(a, b, c, d int) {
	xa, xb, xc, xd := x[a], x[b], x[c], x[d]
	xa += xb
	xd = bits.RotateLeft32(xd^xa, 16)
	xc += xd
	xb = bits.RotateLeft32(xb^xc, 12)
	xa += xb
	xd = bits.RotateLeft32(xd^xa, 8)
	xc += xd
	xb = bits.RotateLeft32(xb^xc, 7)
	x[a], x[b], x[c], x[d] = xa, xb, xc, xd
}

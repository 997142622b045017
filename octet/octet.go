// Package octet is layer 2: see ../../shared/doc/02-octet.md.
package octet

import (
	"slices"

	"sealskin/api"
)

const (
	numberSize = 8 // bytes of a number
	sumSize    = 4 // bytes of a block's sum
	sumStart   = 0xffffffff
	sumPoly    = 0x814141ab
	sumTop     = 1 << 31
)

// Put puts any number of numbers behind bytes, each in eight of them, the highest one first.
func Put(b []byte, l ...int) []byte {
	out := roomy(b, numberSize*len(l))
	for _, n := range l {
		out = appendNumber(out, n)
	}
	return out
}

// PutBytes puts how many bytes there are, and these.
func PutBytes(b, data []byte) []byte {
	return append(appendNumber(roomy(b, numberSize+len(data)), len(data)), data...)
}

// PutText puts a text.
func PutText(b []byte, s string) []byte {
	return append(appendNumber(roomy(b, numberSize+len(s)), len(s)), s...)
}

// roomy copies b, so that what is put behind it never lands in the caller's own room, and leaves room for more bytes.
func roomy(b []byte, more int) []byte {
	return append(make([]byte, 0, len(b)+more), b...)
}

func appendNumber(b []byte, n int) []byte {
	u := uint64(max(n, 0))
	for shift := 8 * (numberSize - 1); shift >= 0; shift -= 8 {
		b = append(b, byte(u>>shift))
	}
	return b
}

// Sum is the sum of bytes.
func Sum(b []byte) uint32 {
	c := uint32(sumStart)
	for _, x := range b {
		c = mix(c, x)
	}
	return c
}

func mix(c uint32, x byte) uint32 {
	c ^= uint32(x) << 24
	for range 8 {
		top := c & sumTop
		c <<= 1
		if top != 0 {
			c ^= sumPoly
		}
	}
	return c
}

// Seal is a block: its length, its bytes, the sum of both.
func Seal(data []byte) ([]byte, api.Errno) {
	if len(data) > api.MaxFrame {
		return nil, api.ErrLong
	}
	b := PutBytes(nil, data)
	s := Sum(b)
	return append(b, byte(s>>24), byte(s>>16), byte(s>>8), byte(s)), api.OK
}

// Open is what the block has with which bytes begin, and how many it has.
func Open(b []byte) ([]byte, int, api.Errno) {
	p := place{all: b}
	data, e := p.block()
	if e != api.OK {
		return nil, 0, e
	}
	return slices.Clone(data), p.at, api.OK
}

// All is what the blocks have with which bytes begin, and how many bytes these have.
func All(b []byte) ([][]byte, int) {
	var l [][]byte
	p := place{all: b}
	for {
		data, e := p.block()
		if e != api.OK {
			return l, p.at
		}
		l = append(l, slices.Clone(data))
	}
}

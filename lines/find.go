package lines

import (
	"math"
	"unicode/utf8"

	"sealskin/api"
	"sealskin/text"
)

// Find is the places where a pattern stands, also one that begins within another one.
func (x *Index) Find(pattern string) ([]int, api.Errno) {
	if !x.made() {
		return nil, api.ErrNil
	}
	p, bad := text.Runes(pattern, math.MaxInt)
	if bad != api.OK {
		return nil, bad
	}
	if len(p) == 0 {
		return nil, api.ErrArg
	}
	return places(x.runes, p), api.OK
}

// Swap is the edit by which a pattern becomes another text wherever it stands, from the beginning on, none within another one.
func (x *Index) Swap(pattern, with string) ([]api.Part, api.Errno) {
	if !x.made() {
		return nil, api.ErrNil
	}
	p, bad := text.Runes(pattern, math.MaxInt)
	if bad != api.OK {
		return nil, bad
	}
	if !utf8.ValidString(with) {
		return nil, api.ErrText
	}
	if len(p) == 0 {
		return nil, api.ErrArg
	}
	var patch text.Patch
	free := 0
	for _, at := range places(x.runes, p) {
		if at >= free {
			free = at + len(p)
			patch.Put(at, free, with)
		}
	}
	return patch.Edit(len(x.runes)), api.OK
}

// places goes through the text once, and never back: where a pattern breaks off, its longest beginning that stands there goes on.
func places(runes, pattern []rune) []int {
	back := borders(pattern)
	var l []int
	n := 0
	for i, r := range runes {
		n = grow(pattern, back, n, r)
		if n == len(pattern) {
			l = append(l, i+1-n)
			n = back[n]
		}
	}
	return l
}

// borders is of each beginning of a pattern how long the longest lesser beginning is with which it ends.
func borders(pattern []rune) []int {
	back := make([]int, len(pattern)+1)
	n := 0
	for i, r := range pattern[1:] {
		n = grow(pattern, back, n, r)
		back[i+2] = n
	}
	return back
}

// grow is how much of a pattern stands behind one more code point, if so much stood ahead of it (less than all).
func grow(pattern []rune, back []int, n int, r rune) int {
	for n > 0 && pattern[n] != r {
		n = back[n]
	}
	if pattern[n] == r {
		n++
	}
	return n
}

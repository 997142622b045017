package octet

import (
	"math"
	"slices"
	"unicode/utf8"

	"sealskin/api"
)

// Reader reads bytes from their beginning on.
type Reader struct {
	place
	made bool // by Read; a plain Reader{} is none
	err  api.Errno
}

// Read is one over a copy of bytes.
func Read(b []byte) *Reader {
	return &Reader{place: place{all: slices.Clone(b)}, made: true}
}

// Left is how many bytes were not read; Err the first error; End that, or whether bytes are left. An error does not change what Left tells: the reader still stands where it stood.
func (r *Reader) Left() int {
	if !r.isMade() {
		return 0
	}
	return r.left()
}

func (r *Reader) Err() api.Errno {
	if !r.isMade() {
		return api.ErrNil
	}
	return r.err
}

func (r *Reader) End() api.Errno {
	if e := r.Err(); e != api.OK {
		return e
	}
	if r.left() > 0 {
		return api.ErrMore
	}
	return api.OK
}

func (r *Reader) isMade() bool { return r != nil && r.made }

// Number is the next number.
func (r *Reader) Number() int { return r.Within(0, math.MaxInt) }

// Within is the next number, from lo to hi.
func (r *Reader) Within(lo, hi int) int {
	if r.Err() != api.OK {
		return 0
	}
	n, e := r.within(lo, hi)
	r.err = e
	return n
}

// Bytes is the next bytes, at most so many.
func (r *Reader) Bytes(most int) []byte {
	if r.Err() != api.OK {
		return nil
	}
	b, e := r.bytes(most)
	r.err = e
	return slices.Clone(b)
}

// Text is the next text, of at most so many code points.
func (r *Reader) Text(most int) string {
	if r.Err() != api.OK {
		return ""
	}
	most = min(max(most, 0), api.MaxFrame)
	next := r.place
	b, e := next.bytes(utf8.UTFMax * most)
	if e == api.OK {
		e = rightText(b, most)
	}
	if e != api.OK {
		r.err = e
		return ""
	}
	r.place = next
	return string(b)
}

func rightText(b []byte, most int) api.Errno {
	if !utf8.Valid(b) {
		return api.ErrText
	}
	if utf8.RuneCount(b) > most {
		return api.ErrLong
	}
	return api.OK
}

package word

import (
	"bytes"
	"slices"
	"testing"
)

func TestReadLowestFirst(t *testing.T) {
	b := []byte{1, 2, 3, 4, 0xff, 0, 0, 0x80, 9, 9, 9}
	for _, c := range []struct {
		n    int
		want []uint32
	}{
		{0, nil},
		{1, []uint32{0x04030201}},
		{2, []uint32{0x04030201, 0x800000ff}},
		{4, []uint32{0x04030201, 0x800000ff, 7, 7}}, // three bytes are no word
	} {
		got := slices.Repeat([]uint32{7}, c.n)
		Read(got, b)
		if !slices.Equal(got, c.want) {
			t.Errorf("%d words: %x", c.n, got)
		}
	}
	Read(nil, nil)
	Read(nil, b)
}

func TestWriteLowestFirst(t *testing.T) {
	l := []uint32{0x04030201, 0x800000ff}
	for _, c := range []struct {
		n    int
		want []byte
	}{
		{0, nil},
		{3, []byte{7, 7, 7}},
		{4, []byte{1, 2, 3, 4}},
		{6, []byte{1, 2, 3, 4, 7, 7}},
		{9, []byte{1, 2, 3, 4, 0xff, 0, 0, 0x80, 7}},
	} {
		got := bytes.Repeat([]byte{7}, c.n)
		Write(got, l)
		if !bytes.Equal(got, c.want) {
			t.Errorf("%d bytes: %x", c.n, got)
		}
	}
	Write(nil, nil)
	Write(make([]byte, 8), nil)
}

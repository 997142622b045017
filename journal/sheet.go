package journal

import (
	"sealskin/api"
	"sealskin/octet"
)

// maxData is how many bytes a record has at most, so that its block has room for its number and its label.
const maxData = api.MaxFrame - 64

// head is what a file's first block has: a generation, and a number of records. In a checkpoint they stand behind it; in file 0 those do that come after them.
type head struct{ generation, records int }

func (h head) block() []byte { return seal(octet.Put(nil, h.generation, h.records)) }

func readHead(block []byte) (head, bool) {
	r := octet.Read(block)
	generation := r.Within(1, api.MaxIndex)
	records := r.Within(0, api.MaxIndex)
	return head{generation, records}, r.End() == api.OK
}

// block is a record's, by its number.
func (r record) block(number int) []byte {
	return seal(octet.PutBytes(octet.Put(nil, number, r.label), r.data))
}

// readRecord is the record that a block has, if it is that of a number.
func readRecord(block []byte, number int) (record, bool) {
	r := octet.Read(block)
	r.Within(number, number)
	label := r.Within(0, api.MaxLabels-1)
	data := r.Bytes(maxData)
	return record{label, data}, r.End() == api.OK
}

// seal has no error to tell: neither a head nor a record is longer than a block may be.
func seal(data []byte) []byte {
	b, _ := octet.Seal(data)
	return b
}

// sheet is what a file has: its head, the records behind it up to the first block that is none, and whether nothing else lies there.
type sheet struct {
	head  head
	list  []record
	whole bool
}

// readSheet reads a file whose records have the numbers from one on; there is none without a head.
func readSheet(b []byte, from int) (sheet, bool) {
	blocks, n := octet.All(b)
	if len(blocks) == 0 {
		return sheet{}, false
	}
	h, ok := readHead(blocks[0])
	if !ok {
		return sheet{}, false
	}
	s := sheet{head: h, whole: n == len(b)}
	for i, block := range blocks[1:] {
		r, ok := readRecord(block, from+i)
		if !ok {
			s.whole = false
			break
		}
		s.list = append(s.list, r)
	}
	return s, true
}

func readCheckpoint(b []byte) (sheet, bool) {
	s, ok := readSheet(b, 0)
	if !ok || !s.whole || s.head.records != len(s.list) {
		return sheet{}, false
	}
	return s, true
}

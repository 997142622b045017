package journal

// record is a label's place, and bytes.
type record struct {
	label int
	data  []byte
}

// book is records in their order, and how many bytes those of each label have.
type book struct {
	records []record
	sizes   map[int]int
}

func (b *book) count() int { return len(b.records) }

func (b *book) add(l ...record) {
	b.records = append(b.records, l...)
	for _, r := range l {
		b.sizes[r.label] += len(r.data)
	}
}

// blocks puts the blocks of all records behind bytes.
func (b *book) blocks(behind []byte) []byte {
	for i, r := range b.records {
		behind = append(behind, r.block(i)...)
	}
	return behind
}

package diff

// table is of two texts how many code points can be kept of what is behind each two places: rows of one text's places, numbers that are at most 1024.
type table struct {
	a, b []rune
	most []uint16
}

func tableOf(a, b []rune) table {
	t := table{a: a, b: b, most: make([]uint16, (len(a)+1)*(len(b)+1))}
	for i := len(a) - 1; i >= 0; i-- {
		for j := len(b) - 1; j >= 0; j-- {
			t.most[t.place(i, j)] = t.best(i, j)
		}
	}
	return t
}

func (t table) place(i, j int) int { return i*(len(t.b)+1) + j }

// best leans on what is behind alone. Two that are alike may always be kept: to keep one of them with another one instead keeps no more.
func (t table) best(i, j int) uint16 {
	if t.a[i] == t.b[j] {
		return t.most[t.place(i+1, j+1)] + 1
	}
	return max(t.most[t.place(i+1, j)], t.most[t.place(i, j+1)])
}

func (t table) kept(i, j int) int { return int(t.most[t.place(i, j)]) }

func (t table) same(i, j int) bool {
	return i < len(t.a) && j < len(t.b) && t.a[i] == t.b[j]
}

// drops tells whether the next step drops; of two ways that keep as much it is the one.
func (t table) drops(i, j int) bool {
	return j == len(t.b) || i < len(t.a) && t.kept(i+1, j) >= t.kept(i, j+1)
}

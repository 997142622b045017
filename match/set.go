package match

// set asks of a code point whether it is one of some.
type set func(rune) bool

func one(c rune) set { return func(r rune) bool { return r == c } }

func span(lo, hi rune) set { return func(r rune) bool { return lo <= r && r <= hi } }

func not(s set) set { return func(r rune) bool { return !s(r) } }

func anyOf(l ...set) set {
	return func(r rune) bool {
		for _, s := range l {
			if s(r) {
				return true
			}
		}
		return false
	}
}

func digits() set { return span('0', '9') }

func letters() set { return anyOf(span('a', 'z'), span('A', 'Z')) }

// signs is what a sign behind a \ stands for. Letters and digits without a meaning stand for nothing.
func signs(c rune) (set, bool) {
	switch c {
	case 'd':
		return digits(), true
	case 'w':
		return anyOf(digits(), letters(), one('_')), true
	case 's':
		return anyOf(one('\t'), one(newline), one(' ')), true
	case 'n':
		return one(newline), true
	case 't':
		return one('\t'), true
	}
	if anyOf(digits(), letters())(c) {
		return nil, false
	}
	return one(c), true
}

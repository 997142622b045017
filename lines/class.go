package lines

// Classes of code points, of which words are.
const (
	blank = iota
	letter
	sign
)

// likeOf asks whether code points are of one's class.
func likeOf(r rune) func(rune) bool {
	class := classOf(r)
	return func(other rune) bool { return classOf(other) == class }
}

func classOf(r rune) int {
	switch {
	case r == ' ' || r == '\t' || r == newline:
		return blank
	case 'a' <= r && r <= 'z' || 'A' <= r && r <= 'Z' || '0' <= r && r <= '9' || r == '_' || r > 127:
		return letter
	}
	return sign
}

package lang

import (
	"strconv"
	"strings"

	"sealskin/api"
)

const (
	maxName   = 12
	maxDigits = 4
	lastComp  = 31
	digits16  = "0123456789abcdef"
)

func isName(s string) bool {
	for _, r := range s {
		if !within(r, 'a', 'z') {
			return false
		}
	}
	return within(len(s), 1, maxName)
}

// number has one form for each: a nought ahead of other digits is refused.
func number(s string) (int, bool) {
	if !within(len(s), 1, maxDigits) || len(s) > 1 && s[0] == '0' {
		return 0, false
	}
	n := 0
	for _, r := range s {
		if !within(r, '0', '9') {
			return 0, false
		}
		n = n*10 + int(r-'0')
	}
	return n, true
}

func readComps(s string) (uint32, bool) {
	var comps uint32
	last := -1
	for _, w := range strings.Split(s, ",") {
		n, ok := number(w)
		if !ok || !within(n, last+1, lastComp) {
			return 0, false
		}
		comps |= 1 << n
		last = n
	}
	return comps, true
}

func printComps(comps uint32) string {
	var w []string
	for i := range lastComp + 1 {
		if comps>>i&1 == 1 {
			w = append(w, strconv.Itoa(i))
		}
	}
	return strings.Join(w, ",")
}

// readSecret takes each byte in its one form alone: what could stand for itself is refused behind a %.
func readSecret(s string) (string, bool) {
	var b []byte
	wanted, value := 0, 0
	for _, r := range s {
		switch {
		case wanted > 0:
			d := strings.IndexRune(digits16, r)
			if d < 0 {
				return "", false
			}
			wanted--
			value = value<<4 + d
			if wanted == 0 && isPlain(rune(value)) {
				return "", false
			}
			if wanted == 0 {
				b = append(b, byte(value))
			}
		case r == '%':
			wanted, value = 2, 0
		case isPlain(r):
			b = append(b, byte(r))
		default:
			return "", false
		}
	}
	return string(b), wanted == 0 && within(len(b), 1, api.MaxSecret)
}

// printSecret goes byte by byte: a secret may be bytes that are no text.
func printSecret(s string) string {
	var b strings.Builder
	for i := range len(s) {
		c := s[i]
		if isPlain(rune(c)) {
			b.WriteByte(c)
			continue
		}
		b.WriteByte('%')
		b.WriteByte(digits16[c>>4])
		b.WriteByte(digits16[c&15])
	}
	return b.String()
}

func isPlain(r rune) bool {
	return within(r, 'a', 'z') || within(r, 'A', 'Z') || within(r, '0', '9')
}

func within[T int | rune](n, lo, hi T) bool { return lo <= n && n <= hi }

package console

import (
	"strings"

	"sealskin/api"
)

const (
	maxNumbers = 4
	maxDigits  = 6
	maxTimes   = 100
)

// shape is what stands in a line behind its word: so many numbers, and perhaps a text.
type shape struct {
	word    string
	kind    int // of the event that the line is; 0: it is none
	numbers int
	hasText bool
	isTimes bool // its number is how many times something is done
}

var shapes = [...]shape{
	{word: "login", kind: api.ELogin, numbers: 1, hasText: true},
	{word: "edit", kind: api.EEdit, numbers: 3, hasText: true},
	{word: "down", kind: api.EDown, numbers: 4},
	{word: "cursor", kind: api.ECursor, numbers: 2},
	{word: "bye", kind: api.EBye, numbers: 1},
	{word: "undo", kind: api.EUndo, numbers: 1},
	{word: "redo", kind: api.ERedo, numbers: 1},
	{word: "up", kind: api.EUp, numbers: 2},
	{word: "deliver", kind: api.EDeliver, numbers: 2},
	{word: "lose", kind: api.ELose, numbers: 3},
	{word: "double", kind: api.EDouble, numbers: 3},
	{word: "torn", kind: api.ETorn, numbers: 3},
	{word: "crash", kind: api.ECrash},
	{word: "check", kind: api.ECheck},
	{word: "tick", numbers: 1, isTimes: true},
	{word: "carry", numbers: 1, isTimes: true},
	{word: "show", numbers: 1},
	{word: "told", numbers: 1},
	{word: "peers", numbers: 1},
	{word: "way", numbers: 1},
	{word: "server", numbers: 1},
	{word: "line", numbers: 3},
	{word: "find", numbers: 1, hasText: true},
	{word: "grep", numbers: 1, hasText: true},
	{word: "label", numbers: 1},
	{word: "audits"},
	{word: "purged", numbers: 2},
}

// shapeOf is what stands behind a word, if there is such a one.
func shapeOf(word string) (shape, bool) {
	for _, x := range shapes {
		if x.word == word {
			return x, true
		}
	}
	return shape{}, false
}

// line is one that says something.
type line struct {
	shape
	number [maxNumbers]int // those that its shape has not are 0
	text   string
}

// readLine is what a line says; false, if it is none.
func readLine(row string) (line, bool) {
	if len(row) > api.MaxLine {
		return line{}, false
	}
	word, _, _ := strings.Cut(row, " ")
	form, ok := shapeOf(word)
	if !ok {
		return line{}, false
	}
	l := line{shape: form}
	// All that stands behind the numbers stays in one piece, its blanks too.
	w := strings.SplitN(row, " ", form.numbers+2)
	if form.hasText && len(w) == form.numbers+2 {
		l.text = w[form.numbers+1]
		w = w[:form.numbers+1]
	}
	if !l.takeNumbers(w[1:]) {
		return line{}, false
	}
	return l, true
}

// takeNumbers takes all numbers in; false, if they are not those that the shape has.
func (l *line) takeNumbers(words []string) bool {
	if len(words) != l.numbers {
		return false
	}
	for i, word := range words {
		n, ok := readNumber(word)
		if !ok || l.isTimes && n > maxTimes {
			return false
		}
		l.number[i] = n
	}
	return true
}

// readNumber has one form for each: a nought ahead of other digits is refused.
func readNumber(s string) (int, bool) {
	if s == "" || len(s) > maxDigits || len(s) > 1 && s[0] == '0' {
		return 0, false
	}
	n := 0
	for _, r := range s {
		if r < '0' || r > '9' {
			return 0, false
		}
		n = n*10 + int(r-'0')
	}
	return n, true
}

// event is the one that a line is: in all lines the numbers stand in the order of its fields.
func (l line) event() api.Event {
	return api.Event{Kind: l.kind, Client: l.number[0], At: l.number[1], N: l.number[2], Target: l.number[3], Text: l.text}
}

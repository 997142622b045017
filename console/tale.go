package console

import (
	"strconv"
	"strings"

	"sealskin/api"
)

// tale is what a line answers: parts, with one blank between each two. Each call adds to its end.
type tale []byte

func tell(word string) tale { return tale(word) }

// outcome is how something went.
func outcome(bad api.Errno) tale {
	if bad == api.OK {
		return tell("ok")
	}
	return tell("error").join(int(bad))
}

// join adds numbers, however many.
func (t tale) join(l ...int) tale {
	for _, n := range l {
		t = append(t, ' ')
		t = strconv.AppendInt(t, int64(n), 10)
	}
	return t
}

func (t tale) name(s string) tale {
	t = append(t, ' ')
	return append(t, s...)
}

// text adds one that stays in its line, whatever it has.
func (t tale) text(s string) tale {
	return t.name(`"` + strings.ReplaceAll(s, "\n", "\u2424") + `"`)
}

// stop adds a semicolon, which has no blank ahead of it.
func (t tale) stop() tale { return append(t, ';') }

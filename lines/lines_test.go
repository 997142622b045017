package lines

import (
	"math"
	"math/rand"
	"slices"
	"strings"
	"testing"
	"time"
	"unicode/utf8"

	"sealskin/api"
	"sealskin/edit"
)

func indexOf(t *testing.T, s string) *Index {
	t.Helper()
	x, bad := New(s)
	if x == nil || bad != api.OK {
		t.Fatalf("New(%.40q): %d", s, bad)
	}
	return x
}

// made is what an edit makes of a text.
func made(t *testing.T, s string, e []api.Part, bad api.Errno) string {
	t.Helper()
	if bad != api.OK {
		t.Fatalf("%.40q: %d", s, bad)
	}
	out, bad := edit.Apply(e, s)
	if bad != api.OK {
		t.Fatalf("%.40q: %v is no edit of it: %d", s, e, bad)
	}
	return out
}

func anyText(r *rand.Rand, most int, of ...rune) string {
	var l []rune
	for range r.Intn(most + 1) {
		l = append(l, of[r.Intn(len(of))])
	}
	return string(l)
}

var texts = []string{"", "\n", "\n\n", "a", "ab\ncd", "ab\ncd\n", "\nab", "é𝄞\n\nñ\x00\r\n", "a b\tc_9!?\ufffd"}

func TestP111New(t *testing.T) {
	for _, s := range []string{"\xff", "ab\n\xed\xa0\x80", "\xc0\x80", "a\xf4\x90\x80\x80"} {
		if x, bad := New(s); x != nil || bad != api.ErrText {
			t.Errorf("%q: %v, %d", s, x, bad)
		}
	}
	for _, s := range texts {
		x := indexOf(t, s)
		if x.Len() != strings.Count(s, "\n")+1 || x.Size() != utf8.RuneCountInString(s) {
			t.Errorf("%q: %d, %d", s, x.Len(), x.Size())
		}
	}
}

func TestP111Line(t *testing.T) {
	for _, s := range texts {
		x := indexOf(t, s)
		want := strings.Split(s, "\n")
		for i, line := range want {
			if got, bad := x.Line(i); got != line || bad != api.OK {
				t.Errorf("%q: line %d: %q, %d", s, i, got, bad)
			}
		}
		for _, i := range []int{math.MinInt, -1, len(want), len(want) + 1, math.MaxInt} {
			if got, bad := x.Line(i); got != "" || bad != api.ErrArg {
				t.Errorf("%q: line %d: %q, %d", s, i, got, bad)
			}
		}
	}
}

func TestP111At(t *testing.T) {
	x := indexOf(t, "aé\n\ncde")
	for _, c := range []struct {
		line, column, want int
		bad                api.Errno
	}{
		{0, 0, 0, api.OK}, {0, 1, 1, api.OK}, {0, 2, 2, api.OK}, {0, 3, 2, api.OK}, {0, math.MaxInt, 2, api.OK},
		{1, 0, 3, api.OK}, {1, 1, 3, api.OK}, {1, math.MaxInt, 3, api.OK},
		{2, 0, 4, api.OK}, {2, 3, 7, api.OK}, {2, 4, 7, api.OK}, {2, math.MaxInt, 7, api.OK},
		{3, 0, 0, api.ErrArg}, {-1, 0, 0, api.ErrArg}, {0, -1, 0, api.ErrArg}, {2, math.MinInt, 0, api.ErrArg}, {math.MaxInt, 0, 0, api.ErrArg}, {math.MinInt, 0, 0, api.ErrArg},
	} {
		if at, bad := x.At(c.line, c.column); at != c.want || bad != c.bad {
			t.Errorf("At(%d, %d): %d, %d", c.line, c.column, at, bad)
		}
	}
	if at, bad := indexOf(t, "ab\ncd").At(1, 9); at != 5 || bad != api.OK {
		t.Error(at, bad)
	}
}

func TestP111Where(t *testing.T) {
	if line, column, bad := indexOf(t, "ab\ncd").Where(3); line != 1 || column != 0 || bad != api.OK {
		t.Error(line, column, bad)
	}
	for _, s := range texts {
		x := indexOf(t, s)
		line, column := 0, 0
		for at, r := range append([]rune(s), 'x') {
			if l, c, bad := x.Where(at); l != line || c != column || bad != api.OK {
				t.Errorf("%q: Where(%d): %d, %d, %d", s, at, l, c, bad)
			}
			column++
			if r == '\n' {
				line, column = line+1, 0
			}
		}
		for _, at := range []int{math.MinInt, -1, x.Size() + 1, math.MaxInt} {
			if l, c, bad := x.Where(at); l != 0 || c != 0 || bad != api.ErrArg {
				t.Errorf("%q: Where(%d): %d, %d, %d", s, at, l, c, bad)
			}
		}
	}
}

func TestP111Word(t *testing.T) {
	x := indexOf(t, "abababa cc_1 !!")
	if from, to, bad := x.Word(9); from != 8 || to != 12 || bad != api.OK {
		t.Error(from, to, bad)
	}
	for _, s := range texts {
		x := indexOf(t, s)
		for _, at := range []int{math.MinInt, -1, x.Size(), x.Size() + 1, math.MaxInt} {
			if from, to, bad := x.Word(at); from != 0 || to != 0 || bad != api.ErrArg {
				t.Errorf("%q: Word(%d): %d, %d, %d", s, at, from, to, bad)
			}
		}
	}
}

// Each code point's class shows by what it stands together with.
func TestP111Classes(t *testing.T) {
	class := func(c rune) string {
		switch {
		case c == 32 || c == 9 || c == 10:
			return "blank"
		case c >= 'a' && c <= 'z' || c >= 'A' && c <= 'Z' || c >= '0' && c <= '9' || c == '_' || c > 127:
			return "letter"
		}
		return "other"
	}
	likes := map[string]string{"blank": " \t\n", "letter": "azAZ09_\u0080é\ufffd𝄞", "other": "!\x00\x7f/:@[`{\r\x0b"}
	for c := range rune(400) {
		for name, others := range likes {
			for _, o := range others {
				from, to, bad := indexOf(t, string([]rune{o, c, o, c, o})).Word(1)
				want := [2]int{1, 2}
				if name == class(c) {
					want = [2]int{0, 5}
				}
				if from != want[0] || to != want[1] || bad != api.OK {
					t.Fatalf("%q among %q: %d, %d, %d", c, o, from, to, bad)
				}
			}
		}
	}
}

func TestP111Stretches(t *testing.T) {
	r := rand.New(rand.NewSource(1))
	for range 300 {
		s := anyText(r, 20, 'a', 'é', '_', '7', ' ', '\n', '!', '-')
		x := indexOf(t, s)
		l := []rune(s)
		for at := range l {
			from, to, bad := x.Word(at)
			if bad != api.OK || from > at || to <= at {
				t.Fatal(from, to, bad)
			}
			for i := range l {
				alike := classOf(l[i]) == classOf(l[at])
				if from <= i && i < to && !alike || (i == from-1 || i == to) && alike {
					t.Fatalf("%q: Word(%d): %d, %d", s, at, from, to)
				}
			}
		}
	}
}

func TestP112Find(t *testing.T) {
	for _, c := range []struct {
		s, pattern string
		want       []int
	}{
		{"aaa", "aa", []int{0, 1}},
		{"abababa", "aba", []int{0, 2, 4}},
		{"", "a", nil},
		{"a", "aa", nil},
		{"é𝄞é", "é", []int{0, 2}},
		{"a\nb\n", "\n", []int{1, 3}},
		{"aabaabaaab", "aabaaab", []int{3}},
		{"ababcababcabd", "ababcabd", []int{5}},
		{"aé", "é", []int{1}},
	} {
		if l, bad := indexOf(t, c.s).Find(c.pattern); !slices.Equal(l, c.want) || bad != api.OK {
			t.Errorf("%q in %q: %v, %d", c.pattern, c.s, l, bad)
		}
	}
	x := indexOf(t, "aé\ufffd")
	for pattern, want := range map[string]api.Errno{"": api.ErrArg, "\xff": api.ErrText, "\xc3": api.ErrText, "a\xed\xa0\x80": api.ErrText} {
		if l, bad := x.Find(pattern); len(l) != 0 || bad != want {
			t.Errorf("%q: %v, %d", pattern, l, bad)
		}
	}
}

func TestP112Swap(t *testing.T) {
	for _, c := range []struct{ s, pattern, with, want string }{
		{"aaa", "aa", "b", "ba"},
		{"aaaa", "aa", "b", "bb"},
		{"aaaaa", "aa", "aaa", "aaaaaaa"},
		{"abababa", "aba", "x", "xbx"},
		{"", "a", "b", ""},
		{"é𝄞é", "é", "", "𝄞"},
		{"one two one", "one", "é1", "é1 two é1"},
		{"xyz", "q", "w", "xyz"},
		{"ab", "ab", "ab", "ab"},
	} {
		e, bad := indexOf(t, c.s).Swap(c.pattern, c.with)
		if s := made(t, c.s, e, bad); s != c.want {
			t.Errorf("%q, %q, %q: %q", c.s, c.pattern, c.with, s)
		}
	}
	e, _ := indexOf(t, "xaayaaaaz").Swap("aa", "é1")
	want := []api.Part{{Kind: api.Keep, N: 1}, {Kind: api.Put, N: 2, Text: "é1"}, {Kind: api.Drop, N: 2}, {Kind: api.Keep, N: 1}, {Kind: api.Put, N: 4, Text: "é1é1"}, {Kind: api.Drop, N: 4}, {Kind: api.Keep, N: 1}}
	if !slices.Equal(e, want) {
		t.Error(e)
	}
	// What becomes itself is put and dropped all the same.
	if e, _ := indexOf(t, "ab").Swap("b", "b"); !slices.Equal(e, []api.Part{{Kind: api.Keep, N: 1}, {Kind: api.Put, N: 1, Text: "b"}, {Kind: api.Drop, N: 1}}) {
		t.Error(e)
	}
	x := indexOf(t, "ab")
	for _, c := range []struct {
		pattern, with string
		bad           api.Errno
	}{{"", "", api.ErrArg}, {"", "x", api.ErrArg}, {"", "\xff", api.ErrText}, {"\xff", "", api.ErrText}, {"a", "\xff", api.ErrText}, {"q", "\xff", api.ErrText}} {
		if e, bad := x.Swap(c.pattern, c.with); len(e) != 0 || bad != c.bad {
			t.Errorf("%q, %q: %v, %d", c.pattern, c.with, e, bad)
		}
	}
}

func TestP112Move(t *testing.T) {
	for _, c := range []struct {
		s              string
		from, many, to int
		want           string
	}{
		{"a\nb\nc", 1, 1, 0, "b\na\nc"},
		{"a\nb\nc\n", 0, 2, 3, "c\na\nb\n"},
		{"a\nb\nc", 0, 1, 2, "b\na\nc"},
		{"a\nb\nc", 0, 2, 2, "a\nb\nc"},
		{"a\nb\nc", 0, 2, 0, "a\nb\nc"},
		{"a\nb\nc", 2, 0, 0, "a\nb\nc"},
		{"a\nb\nc", 0, 0, 2, "a\nb\nc"},
		{"", 0, 0, 0, ""},
		{"é\n\n𝄞𝄞\nx\ny", 2, 1, 1, "é\n𝄞𝄞\n\nx\ny"},
		{"é\n\n𝄞𝄞\nx\ny", 0, 2, 3, "𝄞𝄞\né\n\nx\ny"},
		{"é\n\n𝄞𝄞\nx\ny", 1, 3, 0, "\n𝄞𝄞\nx\né\ny"},
		{"é\n\n𝄞𝄞\nx\ny", 0, 2, 4, "𝄞𝄞\nx\né\n\ny"},
	} {
		e, bad := indexOf(t, c.s).Move(c.from, c.many, c.to)
		if s := made(t, c.s, e, bad); s != c.want {
			t.Errorf("%q: Move(%d, %d, %d): %q", c.s, c.from, c.many, c.to, s)
		}
	}
	// What is put back where it was is put and dropped all the same; no lines at all change nothing.
	x := indexOf(t, "a\nb\nc")
	for _, to := range []int{1, 2} {
		if e, bad := x.Move(1, 1, to); bad != api.OK || !slices.Equal(e, []api.Part{{Kind: api.Keep, N: 2}, {Kind: api.Put, N: 2, Text: "b\n"}, {Kind: api.Drop, N: 2}, {Kind: api.Keep, N: 1}}) {
			t.Error(to, e, bad)
		}
	}
	if e, bad := x.Move(1, 0, 0); bad != api.OK || !slices.Equal(e, []api.Part{{Kind: api.Keep, N: 5}}) {
		t.Error(e, bad)
	}
}

func TestP112WrongMove(t *testing.T) {
	x := indexOf(t, "a\nb\nc\nd")
	for _, c := range [][3]int{
		{-1, 0, 0}, {4, 0, 0}, {math.MinInt, 0, 0}, {math.MaxInt, 0, 0}, {0, -1, 0}, {0, math.MinInt, 0}, {0, 4, 0}, {0, math.MaxInt, 0}, {1, 3, 0}, {3, 1, 0}, {1, math.MaxInt, 0}, {3, math.MaxInt - 1, 3},
		{0, 1, -1}, {0, 1, 4}, {0, 0, 4}, {0, 1, math.MinInt}, {0, 1, math.MaxInt}, {0, 2, 1}, {0, 3, 1}, {0, 3, 2}, {1, 2, 2},
	} {
		if e, bad := x.Move(c[0], c[1], c[2]); len(e) != 0 || bad != api.ErrArg {
			t.Errorf("Move%v: %v, %d", c, e, bad)
		}
	}
	for from := range 4 {
		for many := range 4 - from {
			for to := range 4 {
				_, bad := x.Move(from, many, to)
				if (bad == api.OK) != (to <= from || to >= from+many) {
					t.Errorf("Move(%d, %d, %d): %d", from, many, to, bad)
				}
			}
		}
	}
}

// Lines move as the elements of a plain list do.
func TestP112MovesAsAList(t *testing.T) {
	r := rand.New(rand.NewSource(2))
	for range 500 {
		s := anyText(r, 15, 'a', 'b', 'é', '\n', '\n')
		l := strings.Split(s, "\n")
		from, to := r.Intn(len(l)), r.Intn(len(l))
		many := r.Intn(len(l) - from)
		if to > from && to < from+many {
			continue
		}
		moved := slices.Clone(l[from : from+many])
		var want []string
		for i, line := range l {
			if i == to {
				want = append(want, moved...)
			}
			if i < from || i >= from+many {
				want = append(want, line)
			}
		}
		e, bad := indexOf(t, s).Move(from, many, to)
		if got := made(t, s, e, bad); got != strings.Join(want, "\n") {
			t.Fatalf("%q: Move(%d, %d, %d): %q, want %q", s, from, many, to, got, want)
		}
	}
}

func TestP112Unmade(t *testing.T) {
	for _, x := range []*Index{nil, {}, new(Index)} {
		if x.Len() != 0 || x.Size() != 0 {
			t.Error(x.Len(), x.Size())
		}
		if s, bad := x.Line(0); s != "" || bad != api.ErrNil {
			t.Error(s, bad)
		}
		if at, bad := x.At(0, -1); at != 0 || bad != api.ErrNil {
			t.Error(at, bad)
		}
		if line, column, bad := x.Where(0); line != 0 || column != 0 || bad != api.ErrNil {
			t.Error(line, column, bad)
		}
		if from, to, bad := x.Word(0); from != 0 || to != 0 || bad != api.ErrNil {
			t.Error(from, to, bad)
		}
		for _, s := range []string{"a", "", "\xff"} {
			if l, bad := x.Find(s); len(l) != 0 || bad != api.ErrNil {
				t.Error(l, bad)
			}
			if e, bad := x.Swap(s, s); len(e) != 0 || bad != api.ErrNil {
				t.Error(e, bad)
			}
		}
		if e, bad := x.Move(0, 0, 0); len(e) != 0 || bad != api.ErrNil {
			t.Error(e, bad)
		}
	}
}

func TestP113Turned(t *testing.T) {
	for _, s := range texts {
		x := indexOf(t, s)
		for at := range x.Size() + 1 {
			line, column, _ := x.Where(at)
			if back, bad := x.At(line, column); back != at || bad != api.OK {
				t.Errorf("%q: %d: %d, %d", s, at, back, bad)
			}
		}
		for line := range x.Len() {
			text, _ := x.Line(line)
			for column := range utf8.RuneCountInString(text) + 1 {
				at, _ := x.At(line, column)
				if l, c, bad := x.Where(at); l != line || c != column || bad != api.OK {
					t.Errorf("%q: %d, %d: %d, %d, %d", s, line, column, l, c, bad)
				}
			}
		}
	}
}

func TestP114Whole(t *testing.T) {
	r := rand.New(rand.NewSource(3))
	for _, s := range append(slices.Clone(texts), anyText(r, 100, 'a', 'é', '\n'), anyText(r, 100, '\n', '\r'), anyText(r, 1000, '𝄞', '\n')) {
		x := indexOf(t, s)
		var l []string
		for i := range x.Len() {
			line, _ := x.Line(i)
			l = append(l, line)
		}
		if strings.Join(l, "\n") != s {
			t.Errorf("%q: %q", s, l)
		}
	}
}

func TestP115Found(t *testing.T) {
	r := rand.New(rand.NewSource(4))
	for range 2000 {
		s, pattern := anyText(r, 30, 'a', 'b', 'é')+"a", anyText(r, 5, 'a', 'b', 'é')+"a"
		l, p := []rune(s), []rune(pattern)
		var want []int
		for at := range l {
			if at+len(p) <= len(l) && slices.Equal(l[at:at+len(p)], p) {
				want = append(want, at)
			}
		}
		if got, bad := indexOf(t, s).Find(pattern); !slices.Equal(got, want) || bad != api.OK {
			t.Fatalf("%q in %q: %v, %d, want %v", pattern, s, got, bad, want)
		}
	}
}

func TestP116Swapped(t *testing.T) {
	r := rand.New(rand.NewSource(5))
	for range 2000 {
		s, pattern, with := anyText(r, 20, 'a', 'b', 'é'), anyText(r, 3, 'a', 'b')+"b", anyText(r, 3, 'x', '𝄞')+"x"
		e, bad := indexOf(t, s).Swap(pattern, with)
		there := made(t, s, e, bad)
		if there != strings.ReplaceAll(s, pattern, with) {
			t.Fatalf("%q, %q, %q: %q", s, pattern, with, there)
		}
		e, bad = indexOf(t, there).Swap(with, pattern)
		if back := made(t, there, e, bad); back != s {
			t.Fatalf("%q, %q, %q: %q", s, pattern, with, back)
		}
	}
}

func TestP115LongTexts(t *testing.T) {
	start := time.Now()
	s := strings.Repeat("a", 1<<20)
	x := indexOf(t, s)
	if l, bad := x.Find(strings.Repeat("a", 1<<19) + "b"); len(l) != 0 || bad != api.OK {
		t.Error(len(l), bad)
	}
	if l, bad := x.Find(strings.Repeat("a", 1<<19)); len(l) != 1<<19+1 || bad != api.OK {
		t.Error(len(l), bad)
	}
	e, bad := x.Swap("a", "bc")
	if got := made(t, s, e, bad); got != strings.Repeat("bc", 1<<20) {
		t.Error(len(got))
	}
	if from, to, bad := x.Word(1 << 19); from != 0 || to != 1<<20 || bad != api.OK {
		t.Error(from, to, bad)
	}
	y := indexOf(t, strings.Repeat("\n", 1<<20))
	for at := range 1 << 20 {
		if line, column, bad := y.Where(at); line != at || column != 0 || bad != api.OK {
			t.Fatal(line, column, bad)
		}
	}
	if took := time.Since(start); took > 10*time.Second {
		t.Error(took)
	}
}

func TestMemory(t *testing.T) {
	x := indexOf(t, "aa\nb")
	l, _ := x.Find("a")
	l[0] = 9
	_ = append(l, 9)
	e, _ := x.Swap("a", "c")
	m, _ := x.Move(0, 1, 1)
	for i := range e {
		e[i] = api.Part{}
	}
	for i := range m {
		m[i] = api.Part{}
	}
	if again, _ := x.Find("a"); !slices.Equal(again, []int{0, 1}) {
		t.Error(again)
	}
	e, bad := x.Swap("a", "c")
	if s := made(t, "aa\nb", e, bad); s != "cc\nb" {
		t.Error(s)
	}
	if s, _ := x.Line(0); s != "aa" || x.Len() != 2 || x.Size() != 4 {
		t.Error(s)
	}
}

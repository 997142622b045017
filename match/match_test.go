package match

import (
	"math"
	"slices"
	"strings"
	"testing"
	"time"
	"unicode/utf8"

	"sealskin/api"
	"sealskin/edit"
)

func compiled(t *testing.T, pattern string) *Pattern {
	t.Helper()
	p, at, bad := Compile(pattern)
	if p == nil || at != 0 || bad != api.OK {
		t.Fatalf("%q: place %d, %d", pattern, at, bad)
	}
	return p
}

func refused(t *testing.T, pattern string, place int, why api.Errno) {
	t.Helper()
	if p, at, bad := Compile(pattern); p != nil || at != place || bad != why {
		t.Errorf("%.60q: place %d, %d; want %d, %d", pattern, at, bad, place, why)
	}
}

func found(t *testing.T, pattern, text string, from int) []int {
	t.Helper()
	l, bad := compiled(t, pattern).Find(text, from)
	if bad != api.OK {
		t.Fatalf("%q in %.40q: %d", pattern, text, bad)
	}
	return l
}

func allOf(t *testing.T, pattern, text string) [][]int {
	t.Helper()
	l, bad := compiled(t, pattern).All(text)
	if bad != api.OK {
		t.Fatalf("%q in %.40q: %d", pattern, text, bad)
	}
	return l
}

func swapped(t *testing.T, pattern, text, with string) string {
	t.Helper()
	e, bad := compiled(t, pattern).Swap(text, with)
	if bad != api.OK {
		t.Fatalf("%q in %.40q by %.40q: %d", pattern, text, with, bad)
	}
	s, bad := edit.Apply(e, text)
	if bad != api.OK {
		t.Fatalf("%q in %.40q by %.40q: no edit: %v", pattern, text, with, e)
	}
	return s
}

func TestP121Places(t *testing.T) {
	for pattern, place := range map[string]int{
		"a**": 2, "a*+": 2, "a*{": 2, "a*{2}": 2, "a*??": 3, "a+*": 2, "a+??": 3, "a??*": 3, "a???": 3, "a{1}{2}": 4, "a{1}*": 4, "a{1}??": 5, "a{1}?{2}": 5, "a{1}?+": 5, "é𝄞**": 3,
		"*": 0, "+": 0, "?": 0, "{": 0, "}": 0, "]": 0, ")": 0, "a]": 1, "a}": 1, "a)": 1, "a|*": 2, "|?": 1, "(*a)": 1, "(|+)": 2, "()*)": 3, "a|b)": 3, "{1}": 0, "a|{1}": 2, "^**": 2, "$*+": 2,
		"(": 1, "(a": 2, "(a|": 3, "((a)": 4, "(a*": 3, "()(": 3, "(a]": 2, "(a}": 2,
		"[": 1, "[^": 2, "[a": 2, "[a-": 3, "[a-b": 4, "[^a": 3, "[]": 1, "[^]": 2, "[]a]": 1, "[^]a]": 2, "[b-a]": 3, "[a-\\d]": 3, "[a-\\]]": 3, "[a-[]": 3, "[[a]": 1, "[a[b]": 2, "[^[]": 2, "[a-c[]": 4, "[\\q]": 2, "[a\\": 3, "[\\": 2, "[\\d": 3, "[é-a]": 3, "[a-Z]": 3, "[a]]": 3, "[b-]a]": 5,
		"\\": 1, "\\q": 1, "\\D": 1, "\\W": 1, "\\S": 1, "\\0": 1, "\\9": 1, "\\a": 1, "\\z": 1, "\\A": 1, "\\Z": 1, "a\\b": 2, "(\\": 2, "\\N": 1, "\\r": 1,
		"a{": 2, "a{}": 2, "a{x}": 2, "a{,}": 2, "a{,1}": 2, "a{1": 3, "a{1x": 3, "a{1,": 4, "a{1,x}": 4, "a{1,2": 5, "a{1,2x": 5, "a{1,2,3}": 5, "a{ 1}": 2, "a{1 }": 3, "a{-1}": 2, "a{1,-2}": 4, "a{1,2}{": 6, "a{+1}": 2,
		"a{101}": 4, "a{1000}": 5, "a{999}": 4, "a{200}": 4, "a{0,101}": 6, "a{99999999999999999999}": 4, "a{101": 4, "a{1,101}": 6, "a{١}": 2,
		"a{2,1}": 5, "a{2,1": 5, "a{2,0}": 5, "a{100,99}": 8, "a{20,19}": 7, "a{20,1x": 6, "a{2,1x}": 5,
		"a{01}": 3, "a{00}": 3, "a{007}": 3, "a{1,02}": 5, "a{0,00}": 5,
	} {
		refused(t, pattern, place, api.ErrWord)
	}
}

func TestP121Right(t *testing.T) {
	for pattern, groups := range map[string]int{
		"": 0, "|": 0, "||": 0, "()": 1, "(|)": 1, "a||b": 0, "(a)(b)": 2, "((a)|(b))": 3, "(a){0}": 1, "(a){2}": 1, "a*?": 0, "a+?": 0, "a??": 0, "a{2}?": 0, "a{2,}?": 0, "a{2,3}?": 0, "^*": 0, "$+": 0, ".{3}": 0, "()*": 1, "(()){0,100}": 2,
		"a{0}": 0, "a{0,0}": 0, "a{100}": 0, "a{0,100}": 0, "a{100,}": 0, "a{100,100}": 0, "a{3,3}": 0, "a{10,20}": 0,
		"[a-]": 0, "[-a]": 0, "[-]": 0, "[--]": 0, "[---]": 0, "[a-b-c]": 0, "[\\d-z]": 0, "[^^]": 0, "[a^]": 0, "[*+?{}()|.$]": 0, "[\\]]": 0, "[\\[]": 0, "[\\\\]": 0, "[a-a]": 0, "[a-é]": 0, "[+--]": 0, "[^-^]": 0, "[^\\d]": 0, "[\n]": 0, "[#-]": 0,
		"\\.": 0, "\\*": 0, "\\\\": 0, "\\|": 0, "\\(": 0, "\\)": 0, "\\[": 0, "\\]": 0, "\\{": 0, "\\}": 0, "\\?": 0, "\\+": 0, "\\^": 0, "\\$": 0, "\\é": 0, "\\_": 0, "\\ ": 0, "\\-": 0, "\\\n": 0, "\\d\\w\\s\\n\\t": 0, "\\,": 0, "\\@": 0, "\\`": 0, "\\~": 0, "\\/": 0, "\\:": 0,
		"-": 0, ",": 0, "a,b": 0, "#": 0, "é𝄞\x00\ufffd\n": 0, "\"'<>=!~`@%&;:/": 0, "12": 0,
		strings.Repeat("()", 100): 100, strings.Repeat("(", 20) + strings.Repeat(")", 20): 20,
	} {
		if n := compiled(t, pattern).Groups(); n != groups {
			t.Errorf("%q: %d groups, want %d", pattern, n, groups)
		}
	}
}

func TestP121Text(t *testing.T) {
	for _, s := range []string{"\xff", "a\xed\xa0\x80", "a**\xff", strings.Repeat("a", 300) + "\xff"} {
		refused(t, s, 0, api.ErrText)
	}
	compiled(t, strings.Repeat("é", 200))
	refused(t, strings.Repeat("é", 201), 0, api.ErrLong)
	refused(t, strings.Repeat("*", 201), 0, api.ErrLong)
	refused(t, strings.Repeat("*", 200), 0, api.ErrWord)
}

func TestP121Depth(t *testing.T) {
	in, out := strings.Repeat("(", 20), strings.Repeat(")", 20)
	compiled(t, in+"a"+out)
	compiled(t, in+out+in+out)
	compiled(t, in+"a"+out+"(b)")
	refused(t, in+"()"+out, 21, api.ErrLong)
	refused(t, in+"(", 21, api.ErrLong)
	refused(t, in+"(*", 21, api.ErrLong)
	refused(t, in+"a|b(c", 24, api.ErrLong)
	refused(t, "é"+in+"[(]\\((", 27, api.ErrLong)
	refused(t, in, 20, api.ErrWord)
	refused(t, in+"*(", 20, api.ErrWord)
	refused(t, "a**"+in+"(", 2, api.ErrWord)
	refused(t, in+"(a{0}"+out, 21, api.ErrLong)
}

func TestP121Steps(t *testing.T) {
	for pattern, want := range map[string]int{
		"": 0, "a": 1, "[abc]": 1, ".": 1, "^": 1, "$": 1, "\\d": 1, "ab": 2, "()": 2, "(a)": 3, "|": 2, "a|b": 4, "a|b|": 6, "a|b|c": 7, "(|)": 4,
		"a*": 3, "a+": 4, "a?": 2, "a*?": 3, "a+?": 4, "a??": 2, "a{3}": 3, "a{0}": 0, "a{0,}": 3, "a{1,}": 4, "a{2,}": 5, "a{2,5}": 8, "a{0,3}": 6, "(a){0}": 0, "(a){2}": 6, "(ab|c)*": 9, "(a{2}){3,4}": 17, "^*": 3,
	} {
		if n := len(compiled(t, pattern).steps); n != want {
			t.Errorf("%q: %d steps, want %d", pattern, n, want)
		}
	}
	full := strings.Repeat("a{100}", 20)
	compiled(t, full)
	compiled(t, full+"a{0}")
	refused(t, full+"a", 0, api.ErrLong)
	refused(t, full+"^", 0, api.ErrLong)
	refused(t, full+"|", 0, api.ErrLong)
	refused(t, full+"*", 120, api.ErrWord)
	compiled(t, "(a{98}){20}")
	refused(t, "(a{99}){20}", 0, api.ErrLong)
	compiled(t, "(a{18}){100}")
	refused(t, "(a{19}){100}", 0, api.ErrLong)
	compiled(t, "(a{18}){98,}(b{16}){1}")
	refused(t, "(a{18}){98,}(b{17}){1}", 0, api.ErrLong)
	deep := strings.Repeat("(", 20) + "a" + strings.Repeat("{100})", 20) + "{100}"
	refused(t, deep, 0, api.ErrLong)
	refused(t, deep[:len(deep)-5]+"{0,1}", 0, api.ErrLong)
	compiled(t, deep[:len(deep)-5]+"{0}")
	refused(t, deep[:len(deep)-5]+"{0}*", len(deep)-2, api.ErrWord)
}

func TestP121EachStepCounts(t *testing.T) {
	for rest, n := range map[string]int{"a*": 3, "a+": 4, "a?": 2, "a{2,}": 5, "a{2,5}": 8, "(a)": 3, "()": 2, "(a|b|c)": 9, "^$": 2, "(a{2}|b*?)*": 11} {
		ahead := strings.Repeat("x{100}", 19) + "x{"
		pad := func(k int) string {
			return ahead + string(rune('0'+k/10)) + string(rune('0'+k%10)) + "}"
		}
		compiled(t, pad(100-n)+rest)
		if n > 1 {
			refused(t, pad(100-n+1)+rest, 0, api.ErrLong)
		}
	}
}

func TestP122Find(t *testing.T) {
	for _, c := range []struct {
		pattern, text string
		from          int
		want          []int
	}{
		{"(a+)(b|c)", "xaab", 0, []int{1, 4, 1, 3, 3, 4}},
		{"(a+)(b|c)", "xaab", 2, []int{2, 4, 2, 3, 3, 4}},
		{"(a+)(b|c)", "xaab", 3, nil},
		{"a|ab", "ab", 0, []int{0, 1}},
		{"ab|a", "ab", 0, []int{0, 2}},
		{"a*", "aaa", 0, []int{0, 3}},
		{"a*?", "aaa", 0, []int{0, 0}},
		{"a+?", "aaa", 0, []int{0, 1}},
		{"a+", "aaa", 1, []int{1, 3}},
		{"a??b", "ab", 0, []int{0, 2}},
		{"a?", "a", 0, []int{0, 1}},
		{"a??", "a", 0, []int{0, 0}},
		{"a{2,3}", "aaaa", 0, []int{0, 3}},
		{"a{2,3}?", "aaaa", 0, []int{0, 2}},
		{"a{2}", "aaaa", 0, []int{0, 2}},
		{"a{2}?", "aaaa", 0, []int{0, 2}},
		{"a{2,}", "aaaa", 0, []int{0, 4}},
		{"a{2,}?", "aaaa", 0, []int{0, 2}},
		{"a{0}", "a", 0, []int{0, 0}},
		{"^b$", "a\nb\nc", 0, []int{2, 3}},
		{"^", "a\nb", 1, []int{2, 2}},
		{"^", "a\n", 1, []int{2, 2}},
		{"$", "a\nb", 0, []int{1, 1}},
		{"$", "a\nb", 2, []int{3, 3}},
		{"^$", "a\n\nb", 0, []int{2, 2}},
		{"^$", "", 0, []int{0, 0}},
		{"^a", "ba", 1, nil},
		{"a$", "ab", 0, nil},
		{"[^a-c\\d]+", "ab1xé-2", 0, []int{3, 6}},
		{"[^a]", "a\n", 0, []int{1, 2}},
		{".", "\n", 0, nil},
		{".+", "\naé𝄞\n", 0, []int{1, 4}},
		{"(x)?y", "y", 0, []int{0, 1, -1, -1}},
		{"(a)|(b)", "b", 0, []int{0, 1, -1, -1, 0, 1}},
		{"((a)|b)*", "ab", 0, []int{0, 2, 1, 2, 0, 1}},
		{"(a*)*", "b", 0, []int{0, 0, -1, -1}},
		{"(a*)+", "b", 0, []int{0, 0, 0, 0}},
		{"(a*)*", "aab", 0, []int{0, 2, 0, 2}},
		{"(a*)+", "aab", 0, []int{0, 2, 0, 2}},
		{"(a|b*)*c", "abc", 0, []int{0, 3, 1, 2}},
		{"(a*?)*?b", "aab", 0, []int{0, 3, 0, 2}},
		{"(){2,3}", "", 0, []int{0, 0, 0, 0}},
		{"(|a)+", "aa", 0, []int{0, 2, 1, 2}},
		{"(|a)*", "aa", 0, []int{0, 2, 1, 2}},
		{"(a|)(b|)", "", 0, []int{0, 0, 0, 0, 0, 0}},
		{"(a){0}b", "ab", 0, []int{1, 2, -1, -1}},
		{"(a{0})b", "ab", 0, []int{1, 2, 1, 1}},
		{"z", "abc", 0, nil},
		{"", "abc", 2, []int{2, 2}},
		{"", "abc", 3, []int{3, 3}},
		{"", "", 0, []int{0, 0}},
		{"𝄞é", "x𝄞é", 0, []int{1, 3}},
		{"a|b|c", "xc", 0, []int{1, 2}},
		{"(a|ab)(c|bcd)(d*)", "abcd", 0, []int{0, 4, 0, 1, 1, 4, 4, 4}},
		{"\\(\\)", "()", 0, []int{0, 2}},
		{"(\n)", "a\n", 0, []int{1, 2, 1, 2}},
	} {
		if got := found(t, c.pattern, c.text, c.from); !slices.Equal(got, c.want) {
			t.Errorf("%q in %q from %d: %v, want %v", c.pattern, c.text, c.from, got, c.want)
		}
	}
}

// Each set is asked of all code points up to 300, and some far ones.
func TestP122Sets(t *testing.T) {
	in := func(s string) func(rune) bool { return func(r rune) bool { return strings.ContainsRune(s, r) } }
	between := func(lo, hi rune) func(rune) bool { return func(r rune) bool { return lo <= r && r <= hi } }
	but := func(is func(rune) bool) func(rune) bool { return func(r rune) bool { return !is(r) } }
	word := func(r rune) bool {
		return r == '_' || r >= '0' && r <= '9' || r >= 'a' && r <= 'z' || r >= 'A' && r <= 'Z'
	}
	for pattern, want := range map[string]func(rune) bool{
		".": but(in("\n")), "\\d": between('0', '9'), "\\w": word, "\\s": in("\t\n "), "\\n": in("\n"), "\\t": in("\t"), "\\é": in("é"), "\\.": in("."), "\\_": in("_"), "\\\n": in("\n"),
		"[abc]": in("abc"), "[^abc]": but(in("abc")), "[a-c]": in("abc"), "[^a-c]": but(in("abc")), "[a-cx-zé]": in("abcxyzé"), "[a-]": in("a-"), "[-a]": in("-a"), "[-]": in("-"), "[--]": in("-"), "[---]": in("-"), "[^-]": but(in("-")), "[^--]": but(in("-")),
		"[a-b-c]": in("ab-c"), "[a-c-]": in("abc-"), "[\\d-z]": in("0123456789-z"), "[\\n-a]": in("\n-a"), "[\\d--9]": between('-', '9'), "[--9]": between('-', '9'), "[+--]": in("+,-"), "[+--a]": in("+,-a"), "[^^]": but(in("^")), "[a^]": in("a^"), "[^^-a]": but(between('^', 'a')), "[^-^]": but(in("-^")), "[!^-a]": func(r rune) bool { return r == '!' || '^' <= r && r <= 'a' },
		"[*+?{}()|.$]": in("*+?{}()|.$"), "[\\]]": in("]"), "[\\[\\\\]": in("[\\"), "[^\\d]": but(between('0', '9')), "[^\\w\\s]": func(r rune) bool { return !word(r) && !in("\t\n ")(r) }, "[\\w]": word, "[a-a]": in("a"), "[\x00-\U0010ffff]": between(0, 0x10ffff), "[é-𝄞]": between('é', '𝄞'), "[\\--a]": in("-a"), "[ -~]": between(' ', '~'), "[a-}]": between('a', '}'), "[#-]": in("#-"),
		"a": in("a"), "-": in("-"), ",": in(","), "\n": in("\n"), "𝄞": in("𝄞"), "\ufffd": in("\ufffd"), "\x00": in("\x00"),
	} {
		p := compiled(t, pattern)
		l := []rune{0x7ff, 0x800, 0xd7ff, 0xe000, 0xfffd, 0xffff, 0x10000, '𝄞', 0x10ffff}
		for r := range rune(300) {
			l = append(l, r)
		}
		for _, r := range l {
			f, bad := p.Find(string(r), 0)
			if bad != api.OK || (len(f) == 2 && f[1] == 1) != want(r) {
				t.Errorf("%q at %q: %v, %d", pattern, r, f, bad)
			}
		}
	}
}

func TestP122Wrong(t *testing.T) {
	p := compiled(t, "(a)")
	right := strings.Repeat("é", 4096)
	for _, c := range []struct {
		text string
		from int
		bad  api.Errno
	}{
		{"a\xff", 0, api.ErrText}, {"a\xff", -1, api.ErrText}, {right + "é\xff", 0, api.ErrText}, {right + "a", 0, api.ErrLong}, {right + "a", -1, api.ErrLong}, {"\xed\xa0\x80", 0, api.ErrText},
		{"a", -1, api.ErrArg}, {"a", 2, api.ErrArg}, {"", 1, api.ErrArg}, {"a", math.MinInt, api.ErrArg}, {"a", math.MaxInt, api.ErrArg}, {right, 4097, api.ErrArg}, {"éé", 3, api.ErrArg},
	} {
		if f, bad := p.Find(c.text, c.from); len(f) != 0 || bad != c.bad {
			t.Errorf("%.9q from %d: %v, %d", c.text, c.from, f, bad)
		}
		if c.bad == api.ErrArg {
			continue
		}
		if l, bad := p.All(c.text); len(l) != 0 || bad != c.bad {
			t.Errorf("%.9q: %v, %d", c.text, l, bad)
		}
		if e, bad := p.Swap(c.text, "\xff"); len(e) != 0 || bad != c.bad {
			t.Errorf("%.9q: %v, %d", c.text, e, bad)
		}
	}
	if f, bad := p.Find(right, 4096); len(f) != 0 || bad != api.OK {
		t.Error(f, bad)
	}
}

func TestP122All(t *testing.T) {
	for _, c := range []struct {
		pattern, text string
		want          [][]int
	}{
		{"a*", "aab", [][]int{{0, 2}, {2, 2}, {3, 3}}},
		{"a", "aa", [][]int{{0, 1}, {1, 2}}},
		{"", "ab", [][]int{{0, 0}, {1, 1}, {2, 2}}},
		{"", "", [][]int{{0, 0}}},
		{"x", "ab", nil},
		{"aa", "aaaaa", [][]int{{0, 2}, {2, 4}}},
		{"^", "a\nb\n", [][]int{{0, 0}, {2, 2}, {4, 4}}},
		{"$", "a\nb\n", [][]int{{1, 1}, {3, 3}, {4, 4}}},
		{"^a*", "aa", [][]int{{0, 2}}},
		{"(a)|b", "ba", [][]int{{0, 1, -1, -1}, {1, 2, 1, 2}}},
		{"b*|a", "ab", [][]int{{0, 0}, {1, 2}, {2, 2}}},
		{"\\w+", "one é2 x", [][]int{{0, 3}, {5, 6}, {7, 8}}},
	} {
		if got := allOf(t, c.pattern, c.text); !slices.EqualFunc(got, c.want, slices.Equal[[]int]) {
			t.Errorf("%q in %q: %v, want %v", c.pattern, c.text, got, c.want)
		}
	}
}

func TestP123Swap(t *testing.T) {
	for _, c := range []struct{ pattern, text, with, want string }{
		{"(\\w+) (\\w+)", "one two", "$2 $1", "two one"},
		{"a", "banana", "$0$0", "baanaanaa"},
		{"a*", "aab", "x", "xxbx"},
		{"", "ab", "-", "-a-b-"},
		{"b", "abc", "", "ac"},
		{"(a)|b", "ab", "<$1>", "<a><>"},
		{"b", "abc", "$1$9", "ac"},
		{"b", "abc", "$$", "a$c"},
		{"b", "abc", "$$0", "a$0c"},
		{"b", "abc", "$$$0", "a$bc"},
		{"b", "abc", "$", "a$c"},
		{"b", "abc", "$x$é", "a$x$éc"},
		{"b", "abc", "x$", "ax$c"},
		{"b", "abc", "$$$", "a$$c"},
		{"(b)", "abc", "$10", "ab0c"},
		{"(a)(b)(c)(d)(e)(f)(g)(h)(i)(j)", "abcdefghij", "$9$8$10$0", "iha0abcdefghij"},
		{"(é)(𝄞)", "é𝄞", "$2ñ$1", "𝄞ñé"},
		{"x", "abc", "y", "abc"},
		{"x", "", "y", ""},
		{"()", "", "$1y$0", "y"},
		{"b", "abc", "$/$:", "a$/$:c"},
	} {
		if got := swapped(t, c.pattern, c.text, c.with); got != c.want {
			t.Errorf("%q in %q by %q: %q, want %q", c.pattern, c.text, c.with, got, c.want)
		}
	}
	e, bad := compiled(t, "a").Swap("xaay", "é$0")
	want := []api.Part{{Kind: api.Keep, N: 1}, {Kind: api.Put, N: 4, Text: "éaéa"}, {Kind: api.Drop, N: 2}, {Kind: api.Keep, N: 1}}
	if !slices.Equal(e, want) || bad != api.OK {
		t.Error(e, bad)
	}
	if e, bad := compiled(t, "z").Swap("ab", "x"); !slices.Equal(e, []api.Part{{Kind: api.Keep, N: 2}}) || bad != api.OK {
		t.Error(e, bad)
	}
}

func TestP123Wrong(t *testing.T) {
	p := compiled(t, "a")
	right := strings.Repeat("é", 4096)
	for with, want := range map[string]api.Errno{"\xff": api.ErrText, "$\xed\xa0\x80": api.ErrText, right: api.OK, right + "é": api.ErrLong, right + "é\xff": api.ErrText} {
		for _, text := range []string{"a", "b", ""} {
			if e, bad := p.Swap(text, with); bad != want || want != api.OK && len(e) != 0 {
				t.Errorf("%q by %.9q: %d, want %d", text, with, bad, want)
			}
		}
	}
}

// What is put is counted in code points, over all that is found.
func TestP123TooMuch(t *testing.T) {
	for _, c := range []struct {
		pattern, text, with string
		puts                int
		bad                 api.Errno
	}{
		{"a", strings.Repeat("a", 256), strings.Repeat("é", 4096), api.MaxSpan, api.OK},
		{"a", strings.Repeat("a", 257), strings.Repeat("é", 4096), 0, api.ErrLong},
		{"a+", strings.Repeat("a", 4096), strings.Repeat("$0", 256), api.MaxSpan, api.OK},
		{"a+", strings.Repeat("a", 4096), strings.Repeat("$0", 256) + "x", 0, api.ErrLong},
		{"(a+)", strings.Repeat("a", 4096), strings.Repeat("$1", 2048), 0, api.ErrLong},
		{"(a+)", strings.Repeat("b", 2048) + strings.Repeat("a", 2048), strings.Repeat("$1", 512), api.MaxSpan, api.OK},
		{"", strings.Repeat("a", 255), strings.Repeat("é", 4096), api.MaxSpan, api.OK},
		{"", strings.Repeat("a", 256), strings.Repeat("é", 4096), 0, api.ErrLong},
		{"(a)|b", strings.Repeat("b", 4096), strings.Repeat("$1", 2048), 0, api.OK},
		{"a", strings.Repeat("a", 4096), strings.Repeat("$$", 256), api.MaxSpan, api.OK},
		{"a", strings.Repeat("a", 4096), strings.Repeat("$$", 256) + "$", 0, api.ErrLong},
	} {
		e, bad := compiled(t, c.pattern).Swap(c.text, c.with)
		if puts, _ := edit.Weight(e); puts != c.puts || bad != c.bad {
			t.Errorf("%q, %d, %.9q: %d, %d", c.pattern, len(c.text), c.with, puts, bad)
		}
	}
}

func TestP123Unmade(t *testing.T) {
	for _, p := range []*Pattern{nil, {}, new(Pattern)} {
		if p.Groups() != 0 {
			t.Error(p.Groups())
		}
		for _, s := range []string{"", "a", "\xff"} {
			if f, bad := p.Find(s, -1); len(f) != 0 || bad != api.ErrNil {
				t.Error(f, bad)
			}
			if l, bad := p.All(s); len(l) != 0 || bad != api.ErrNil {
				t.Error(l, bad)
			}
			if e, bad := p.Swap(s, s); len(e) != 0 || bad != api.ErrNil {
				t.Error(e, bad)
			}
		}
	}
}

func TestP125Plain(t *testing.T) {
	for _, s := range []string{"a", "ab", "aba", "é𝄞", "x1", "ba"} {
		for _, text := range []string{"", "a", "abababa", "xé𝄞x1", "ab\nab", "bbbaaa"} {
			var want [][]int
			l, p := []rune(text), []rune(s)
			for at := 0; at+len(p) <= len(l); at++ {
				if slices.Equal(l[at:at+len(p)], p) {
					want = append(want, []int{at, at + len(p)})
					at += len(p) - 1
				}
			}
			if got := allOf(t, s, text); !slices.EqualFunc(got, want, slices.Equal[[]int]) {
				t.Errorf("%q in %q: %v, want %v", s, text, got, want)
			}
		}
	}
}

// Patterns that others are slow with, as long as they may be, in texts as long as they may be.
func TestP122Slow(t *testing.T) {
	text := strings.Repeat("a", 4096)
	start := time.Now()
	for _, pattern := range []string{
		"(a*)*b", "(a*)*(a*)*b", "(a|a)*b", "((a*)*)*b|a", "(a?){100}(a?){100}(a?){100}a{100}b|a", "((a?){100}){4}b|a", strings.Repeat("(.*)", 40) + "b|a", strings.Repeat("()", 90) + "a{0,100}b|a",
		strings.Repeat("(", 20) + "a" + strings.Repeat("*)", 20) + "b|a", "(a|aa|aaa|aaaa)*b|a", "(.{0,50}){0,12}b|a", "[^b]*b|a", "(a+a+)+b|a?",
	} {
		want := 4096
		if !strings.Contains(pattern, "|a") || strings.HasPrefix(pattern, "(a|a)") {
			want = 0
		}
		if strings.HasSuffix(pattern, "?") {
			want++
		}
		if l := allOf(t, pattern, text); len(l) != want {
			t.Errorf("%.40q: %d, want %d", pattern, len(l), want)
		}
		if took := time.Since(start); took > 30*time.Second {
			t.Fatalf("%.40q: %v", pattern, took)
		}
	}
}

// Where nearly all ways lead to the end, too, each place is gone to once.
func TestP122Alive(t *testing.T) {
	text := strings.Repeat("a", 4095) + "b"
	start := time.Now()
	for pattern, want := range map[string]int{
		"((a?){99}){5}b|a":                     3600 + 1,
		"(a?){100}(a?){100}(a?){100}(a?){100}": 11 + 1 + 1,
		strings.Repeat("(a*)", 49):             1 + 1 + 1,
		strings.Repeat("(a*?)", 39) + "b|a":    1,
		"(a|a?)*?b|a":                          1,
		strings.Repeat("()", 95) + "[ab]":      4096,
	} {
		l := allOf(t, pattern, text)
		if len(l) != want {
			t.Errorf("%.40q: %d, want %d", pattern, len(l), want)
		}
		if took := time.Since(start); took > 30*time.Second {
			t.Fatalf("%.40q: %v", pattern, took)
		}
	}
}

func TestMemory(t *testing.T) {
	p := compiled(t, "(a)")
	l, _ := p.All("aab")
	l[0][0], l[0][2] = 9, 9
	_ = append(l[0], 9, 9, 9, 9)
	if !slices.Equal(l[1], []int{1, 2, 1, 2}) {
		t.Error(l)
	}
	f, _ := p.Find("aab", 0)
	f[0] = 9
	e, _ := p.Swap("aab", "x")
	e[0] = api.Part{}
	if again, _ := p.All("aab"); !slices.EqualFunc(again, [][]int{{0, 1, 0, 1}, {1, 2, 1, 2}}, slices.Equal[[]int]) {
		t.Error(again)
	}
	if utf8.RuneCountInString(swapped(t, "a", "aab", "x")) != 3 {
		t.Error("swap")
	}
}

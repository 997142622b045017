package diff

import (
	"math/rand"
	"slices"
	"strings"
	"testing"
	"time"
	"unicode/utf8"

	"sealskin/api"
	"sealskin/edit"
)

func keep(n int) api.Part { return api.Part{Kind: api.Keep, N: n} }

func drop(n int) api.Part { return api.Part{Kind: api.Drop, N: n} }

func put(s string) api.Part {
	return api.Part{Kind: api.Put, N: utf8.RuneCountInString(s), Text: s}
}

func diffOf(t *testing.T, a, b string) []api.Part {
	t.Helper()
	e, bad := Diff(a, b)
	if bad != api.OK {
		t.Fatalf("Diff(%.40q, %.40q): %d", a, b, bad)
	}
	return e
}

func keptOf(t *testing.T, a, b string) int {
	t.Helper()
	n, bad := Kept(a, b)
	if bad != api.OK {
		t.Fatalf("Kept(%.40q, %.40q): %d", a, b, bad)
	}
	return n
}

func mergeOf(t *testing.T, base, a, b string) string {
	t.Helper()
	s, bad := Merge(base, a, b)
	if bad != api.OK {
		t.Fatalf("Merge(%.40q, %.40q, %.40q): %d", base, a, b, bad)
	}
	return s
}

func meetOf(t *testing.T, base, a, b string) int {
	t.Helper()
	n, bad := Meet(base, a, b)
	if bad != api.OK {
		t.Fatalf("Meet(%.40q, %.40q, %.40q): %d", base, a, b, bad)
	}
	return n
}

func TestP101Diff(t *testing.T) {
	for _, c := range []struct {
		a, b string
		want []api.Part
	}{
		{"abcd", "axcy", []api.Part{keep(1), put("x"), drop(1), keep(1), put("y"), drop(1)}},
		{"", "", nil},
		{"", "éx", []api.Part{put("éx")}},
		{"éx", "", []api.Part{drop(2)}},
		{"é𝄞", "é𝄞", []api.Part{keep(2)}},
		{"ab", "ba", []api.Part{drop(1), keep(1), put("a")}},
		{"aab", "ab", []api.Part{keep(1), drop(1), keep(1)}},
		{"ab", "aab", []api.Part{keep(1), put("a"), keep(1)}},
		{"abc", "xyz", []api.Part{put("xyz"), drop(3)}},
		{"abc", "cab", []api.Part{put("c"), keep(2), drop(1)}},
		{"cab", "abc", []api.Part{drop(1), keep(2), put("c")}},
		{"xay", "zaw", []api.Part{put("z"), drop(1), keep(1), put("w"), drop(1)}},
		{"abcabba", "cbabac", []api.Part{drop(2), keep(1), drop(1), keep(1), put("a"), keep(2), put("c")}},
		{"a\nb\n", "b\na\n", []api.Part{drop(2), keep(2), put("a\n")}},
		{"\x00", "\ufffd", []api.Part{put("\ufffd"), drop(1)}},
	} {
		if e := diffOf(t, c.a, c.b); !slices.Equal(e, c.want) {
			t.Errorf("Diff(%q, %q): %v, want %v", c.a, c.b, e, c.want)
		}
	}
}

// The steps as the document tells them, one by one, by Kept of what is left.
func TestP101Steps(t *testing.T) {
	r := rand.New(rand.NewSource(1))
	for range 300 {
		a, b := anyText(r, 9), anyText(r, 9)
		x, y := []rune(a), []rune(b)
		var l []api.Part
		for len(x) > 0 || len(y) > 0 {
			switch {
			case len(x) > 0 && len(y) > 0 && x[0] == y[0]:
				l = append(l, keep(1))
				x, y = x[1:], y[1:]
			case len(y) == 0 || len(x) > 0 && keptOf(t, string(x[1:]), string(y)) >= keptOf(t, string(x), string(y[1:])):
				l = append(l, drop(1))
				x = x[1:]
			default:
				l = append(l, put(string(y[0])))
				y = y[1:]
			}
		}
		if e := diffOf(t, a, b); !slices.Equal(e, edit.Norm(l...)) {
			t.Fatalf("Diff(%q, %q): %v, want %v", a, b, e, edit.Norm(l...))
		}
	}
}

// anyText has few kinds of code points, so that much is alike.
func anyText(r *rand.Rand, most int) string {
	var l []rune
	for range r.Intn(most + 1) {
		l = append(l, []rune{'a', 'b', 'é', '𝄞', '\n'}[r.Intn(2+r.Intn(4))])
	}
	return string(l)
}

func TestP101Wrong(t *testing.T) {
	const no = "a\xff"
	right := strings.Repeat("é", 1024)
	long := right + "é"
	both := long + no
	for _, c := range []struct {
		a, b string
		bad  api.Errno
	}{
		{no, "", api.ErrText}, {"", no, api.ErrText}, {long, "", api.ErrLong}, {"", long, api.ErrLong},
		{no, long, api.ErrText}, {long, no, api.ErrLong}, {both, "", api.ErrText}, {right, both, api.ErrText}, {"\xed\xa0\x80", "", api.ErrText},
		{strings.Repeat("a", 1<<20), no, api.ErrLong},
	} {
		if e, bad := Diff(c.a, c.b); len(e) != 0 || bad != c.bad {
			t.Errorf("Diff(%.9q, %.9q): %d, want %d", c.a, c.b, bad, c.bad)
		}
		if n, bad := Kept(c.a, c.b); n != 0 || bad != c.bad {
			t.Errorf("Kept(%.9q, %.9q): %d, %d, want %d", c.a, c.b, n, bad, c.bad)
		}
		for _, three := range [][3]string{{c.a, c.b, ""}, {c.a, "", c.b}, {"", c.a, c.b}, {c.a, c.b, no}, {c.a, c.b, long}, {c.a, long, c.b}} {
			want := firstWrong(three[:]...)
			if s, bad := Merge(three[0], three[1], three[2]); s != "" || bad != want {
				t.Errorf("Merge(%.9q): %q, %d, want %d", three, s, bad, want)
			}
			if n, bad := Meet(three[0], three[1], three[2]); n != 0 || bad != want {
				t.Errorf("Meet(%.9q): %d, %d, want %d", three, n, bad, want)
			}
		}
	}
	if n := keptOf(t, right, right); n != 1024 {
		t.Error(n)
	}
	if s := mergeOf(t, right, right, right); s != right {
		t.Error(len(s))
	}
}

func firstWrong(l ...string) api.Errno {
	for _, s := range l {
		if !utf8.ValidString(s) {
			return api.ErrText
		}
		if utf8.RuneCountInString(s) > 1024 {
			return api.ErrLong
		}
	}
	return api.OK
}

func TestP102Merge(t *testing.T) {
	for _, c := range []struct{ base, a, b, want string }{
		{"one two", "one 2 two", "1 one two", "1 one 2 two"},
		{"", "a", "b", "ab"},
		{"", "b", "a", "ba"},
		{"x", "xé", "x𝄞", "xé𝄞"},
		{"abc", "", "abxc", "x"},
		{"abc", "abxc", "", "x"},
		{"abc", "ac", "ab", "a"},
		{"abc", "xbc", "yc", "xyc"},
		{"abc", "yc", "xbc", "yxc"},
		{"a\nb\nc\n", "a\nB\nc\n", "a\nb\nc\nd\n", "a\nB\nc\nd\n"},
	} {
		if s := mergeOf(t, c.base, c.a, c.b); s != c.want {
			t.Errorf("Merge(%q, %q, %q): %q", c.base, c.a, c.b, s)
		}
	}
	// What is merged may be longer than a text that is handed in.
	full := strings.Repeat("a", 1024)
	if s := mergeOf(t, "", full, strings.Repeat("b", 1024)); s != full+strings.Repeat("b", 1024) {
		t.Error(len(s))
	}
}

func TestP102Meet(t *testing.T) {
	for _, c := range []struct {
		base, a, b string
		want       int
	}{
		{"abc", "xbc", "aby", 0},
		{"abc", "ac", "abxc", 1},
		{"abc", "ac", "axbc", 1},
		{"abc", "abc", "xyz", 0},
		{"", "a", "b", 1},
		{"", "", "b", 0},
		{"abc", "xabc", "yabc", 1},
		{"abc", "xabc", "aybc", 0},
		{"abc", "bc", "ac", 1},
		{"abc", "bc", "ab", 0},
		{"abcd", "", "axbycz", 1 + 1 + 1},
		{"abcdef", "acef", "bdf", 4},
		{"abc", "xc", "ayc", 1},
		{"abc", "xbc", "yabc", 1},
		{"abc", "xbc", "aybc", 1},
		{"abc", "xbc", "abyc", 0},
	} {
		if n := meetOf(t, c.base, c.a, c.b); n != c.want {
			t.Errorf("Meet(%q, %q, %q): %d, want %d", c.base, c.a, c.b, n, c.want)
		}
		if n := meetOf(t, c.base, c.b, c.a); n != c.want {
			t.Errorf("Meet(%q, %q, %q): %d, want %d", c.base, c.b, c.a, n, c.want)
		}
	}
}

// Stretches as they are marked on the places of a text, one by one.
func TestP102Stretches(t *testing.T) {
	r := rand.New(rand.NewSource(2))
	for range 500 {
		base, a, b := anyText(r, 12), anyText(r, 12), anyText(r, 12)
		want := 0
		for _, x := range marked(diffOf(t, base, a)) {
			for _, y := range marked(diffOf(t, base, b)) {
				for at := range 13 {
					if slices.Contains(x, at) && slices.Contains(y, at) {
						want++
						break
					}
				}
			}
		}
		if n := meetOf(t, base, a, b); n != want {
			t.Fatalf("Meet(%q, %q, %q): %d, want %d", base, a, b, n, want)
		}
	}
}

// marked is of each stretch all its places, both ends among them.
func marked(e []api.Part) [][]int {
	var l [][]int
	at := 0
	for i := 0; i < len(e); i++ {
		if e[i].Kind == api.Keep {
			at += e[i].N
			continue
		}
		places := []int{at}
		if e[i].Kind == api.Put && i+1 < len(e) && e[i+1].Kind == api.Drop {
			i++
		}
		if e[i].Kind == api.Drop {
			for range e[i].N {
				at++
				places = append(places, at)
			}
		}
		l = append(l, places)
	}
	return l
}

func TestP103Leads(t *testing.T) {
	r := rand.New(rand.NewSource(3))
	for range 1000 {
		a, b := anyText(r, 30), anyText(r, 30)
		e := diffOf(t, a, b)
		if s, bad := edit.Apply(e, a); s != b || bad != api.OK {
			t.Fatalf("%q, %q: %v makes %q, %d", a, b, e, s, bad)
		}
		if edit.Check(e, utf8.RuneCountInString(a)) != api.OK {
			t.Fatal(e)
		}
		if edit.Changes(diffOf(t, a, a)) || edit.Changes(e) == (a == b) {
			t.Fatalf("%q, %q", a, b)
		}
	}
}

// most is how many can be kept, found by trying all that could be kept of a text.
func most(a, b []rune) int {
	best := 0
	for picks := range 1 << len(a) {
		n, j := 0, 0
		for i, c := range a {
			if picks>>i&1 == 0 {
				continue
			}
			for j < len(b) && b[j] != c {
				j++
			}
			if j == len(b) {
				n = -1
				break
			}
			j++
			n++
		}
		best = max(best, n)
	}
	return best
}

func TestP104Short(t *testing.T) {
	r := rand.New(rand.NewSource(4))
	for range 300 {
		a, b := anyText(r, 9), anyText(r, 12)
		n := 0
		for _, p := range diffOf(t, a, b) {
			if p.Kind == api.Keep {
				n += p.N
			}
		}
		if want := most([]rune(a), []rune(b)); n != want || keptOf(t, a, b) != want {
			t.Fatalf("%q, %q: %d kept, Kept %d, want %d", a, b, n, keptOf(t, a, b), want)
		}
	}
}

func TestP105Merge(t *testing.T) {
	r := rand.New(rand.NewSource(5))
	apart := 0
	for range 3000 {
		base := anyText(r, 12)
		a, b := changed(r, base), changed(r, base)
		if mergeOf(t, base, base, a) != a || mergeOf(t, base, a, base) != a {
			t.Fatalf("%q, %q", base, a)
		}
		if meetOf(t, base, a, b) > 0 {
			continue
		}
		apart++
		if mergeOf(t, base, a, b) != mergeOf(t, base, b, a) {
			t.Fatalf("%q, %q, %q", base, a, b)
		}
	}
	if apart < 100 {
		t.Error(apart)
	}
}

// changed is a text of which a stretch became another one.
func changed(r *rand.Rand, s string) string {
	l := []rune(s)
	from := r.Intn(len(l) + 1)
	to := from + r.Intn(min(3, len(l)-from)+1)
	return string(l[:from]) + anyText(r, 3) + string(l[to:])
}

func TestP106Kept(t *testing.T) {
	for _, c := range []struct {
		a, b string
		want int
	}{{"", "", 0}, {"a", "", 0}, {"abcabba", "cbabac", 4}, {"é𝄞", "𝄞é", 1}, {"abc", "xaxbxc", 3}, {strings.Repeat("ab", 512), strings.Repeat("ba", 512), 1023}} {
		if n := keptOf(t, c.a, c.b); n != c.want {
			t.Errorf("Kept(%.9q, %.9q): %d", c.a, c.b, n)
		}
	}
	r := rand.New(rand.NewSource(6))
	for range 500 {
		a, b := anyText(r, 40), anyText(r, 40)
		n := 0
		for _, p := range diffOf(t, a, b) {
			if p.Kind == api.Keep {
				n += p.N
			}
		}
		if keptOf(t, a, b) != n || keptOf(t, b, a) != n {
			t.Fatalf("%q, %q: %d, %d, %d", a, b, n, keptOf(t, a, b), keptOf(t, b, a))
		}
	}
}

func TestP104LongTexts(t *testing.T) {
	r := rand.New(rand.NewSource(7))
	one, two, three := make([]rune, 1024), make([]rune, 1024), make([]rune, 1024)
	for i := range one {
		one[i], two[i], three[i] = rune('a'+r.Intn(3)), rune('a'+r.Intn(3)), rune('a'+r.Intn(3))
	}
	start := time.Now()
	base, a, b := string(one), string(two), string(three)
	if s, bad := edit.Apply(diffOf(t, base, a), base); s != a || bad != api.OK {
		t.Error(bad)
	}
	mergeOf(t, base, a, b)
	if meetOf(t, base, a, b) == 0 {
		t.Error("no meet")
	}
	if took := time.Since(start); took > 10*time.Second {
		t.Error(took)
	}
}

func TestMemory(t *testing.T) {
	one := diffOf(t, "abcd", "axcy")
	for i := range one {
		one[i] = drop(9)
	}
	_ = append(one, drop(9))
	if two := diffOf(t, "abcd", "axcy"); len(two) != 6 || two[0] != keep(1) {
		t.Error(two)
	}
}

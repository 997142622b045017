package edit

import (
	"math/rand"
	"slices"
	"strings"
	"testing"
	"unicode/utf8"

	"sealskin/api"
)

// small is all edits of n code points that put at most one letter at a place: the letters are those of names, and unlike.
func small(n int, names string) []parts {
	var all []parts
	for mask := range 1 << (2*n + 1) {
		var l parts
		for i := range n {
			if mask>>i&1 == 1 {
				l = append(l, ins(names[i:i+1]))
			}
			if mask>>(n+1+i)&1 == 1 {
				l = append(l, drop(1))
			} else {
				l = append(l, keep(1))
			}
		}
		if mask>>n&1 == 1 {
			l = append(l, ins(names[n:n+1]))
		}
		all = append(all, Norm(l...))
	}
	return all
}

const base = "0123456789"

func count(s string) int { return utf8.RuneCountInString(s) }

func applied(t *testing.T, e parts, s string) string {
	t.Helper()
	r, bad := Apply(e, s)
	if bad != api.OK {
		t.Fatalf("Apply(%v, %q): %d", e, s, bad)
	}
	return r
}

func composed(t *testing.T, a, b parts) parts {
	t.Helper()
	e, bad := Compose(a, b)
	if bad != api.OK {
		t.Fatalf("Compose(%v, %v): %d", a, b, bad)
	}
	isForm(t, e)
	return e
}

func transformed(t *testing.T, a, b parts) (one, two parts) {
	t.Helper()
	one, two, bad := Transform(a, b)
	if bad != api.OK {
		t.Fatalf("Transform(%v, %v): %d", a, b, bad)
	}
	isForm(t, one)
	isForm(t, two)
	return one, two
}

// isForm is P3.11.
func isForm(t *testing.T, e parts) {
	t.Helper()
	if _, _, bad := Size(e); bad != api.OK || !slices.Equal(Norm(e...), e) {
		t.Fatalf("%v is no edit in its one form", e)
	}
}

// places is what an edit puts at each place of a sequence, and whether it drops the code point there.
func places(e parts, n int) (puts []string, drops []bool) {
	puts, drops = make([]string, n+1), make([]bool, n+1)
	at := 0
	for _, p := range e {
		if p.Kind == api.Put {
			puts[at] += p.Text
			continue
		}
		for range p.N {
			drops[at] = p.Kind == api.Drop
			at++
		}
	}
	return puts, drops
}

// merged is what two edits make together of a text, place by place, and what of it each still has to drop behind the other one.
func merged(a, b parts, s string) (text string, dropsA, dropsB int) {
	l := []rune(s)
	putsA, dropA := places(a, len(l))
	putsB, dropB := places(b, len(l))
	for i := range putsA {
		text += putsA[i] + putsB[i]
		if i == len(l) {
			break
		}
		switch {
		case !dropA[i] && !dropB[i]:
			text += string(l[i])
		case !dropB[i]:
			dropsA++
		case !dropA[i]:
			dropsB++
		}
	}
	return text, dropsA, dropsB
}

// aside checks what Transform answers of a pair. As all code points are unlike, texts and weights leave one edit alone.
func aside(t *testing.T, a, b parts, s string) {
	t.Helper()
	one, two := transformed(t, a, b)
	want, dropsA, dropsB := merged(a, b, s)
	x, y := applied(t, two, applied(t, a, s)), applied(t, one, applied(t, b, s))
	if x != want || y != want {
		t.Fatalf("%v and %v of %q: %q and %q, want %q", a, b, s, x, y, want)
	}
	putsA, _ := Weight(a)
	putsB, _ := Weight(b)
	if p, d := Weight(one); p != putsA || d != dropsA {
		t.Fatalf("Transform(%v, %v): one %v", a, b, one)
	}
	if p, d := Weight(two); p != putsB || d != dropsB {
		t.Fatalf("Transform(%v, %v): two %v", a, b, two)
	}
}

func TestP35P37DiamondAll(t *testing.T) {
	for n := range 4 {
		for _, a := range small(n, "abcd") {
			for _, b := range small(n, "ABCD") {
				aside(t, a, b, base[:n])
			}
		}
	}
}

func TestP34P38InRowAll(t *testing.T) {
	for n := range 3 {
		s := base[:n]
		for _, a := range small(n, "abc") {
			made := applied(t, a, s)
			for _, b := range small(len(made), "ABCDEF") {
				c := composed(t, a, b)
				want := applied(t, b, made)
				if got := applied(t, c, s); got != want {
					t.Fatalf("Compose(%v, %v): %q, want %q", a, b, got, want)
				}
				stay := 0
				for _, r := range s {
					stay += strings.Count(want, string(r))
				}
				if p, d := Weight(c); p != len(want)-stay || d != n-stay {
					t.Fatalf("Compose(%v, %v): %v", a, b, c)
				}
			}
		}
	}
}

// maker makes edits whose texts have code points that never came before, of one to four bytes.
type maker struct {
	rnd  *rand.Rand
	next rune
}

func (m *maker) text(n int) string {
	var b strings.Builder
	for range n {
		m.next += rune(1 + m.rnd.Intn(3)*m.rnd.Intn(400))
		if m.next >= 0xd800 && m.next < 0xe000 {
			m.next = 0xe000
		}
		b.WriteRune(m.next)
	}
	return b.String()
}

func (m *maker) edit(n int, drops bool) parts {
	var l parts
	for n > 0 {
		k := 1 + m.rnd.Intn(min(n, 4))
		switch m.rnd.Intn(4) {
		case 0:
			l = append(l, ins(m.text(1+m.rnd.Intn(3))))
			continue
		case 1:
			if drops {
				l = append(l, drop(k))
				break
			}
			l = append(l, keep(k))
		default:
			l = append(l, keep(k))
		}
		n -= k
	}
	if m.rnd.Intn(3) == 0 {
		l = append(l, ins(m.text(1+m.rnd.Intn(3))))
	}
	return Norm(l...)
}

func many(seed int64, times int, f func(m *maker, s string)) {
	rnd := rand.New(rand.NewSource(seed))
	for range times {
		m := &maker{rnd, 'a'}
		f(m, m.text(rnd.Intn(14)))
	}
}

func TestP37Diamond(t *testing.T) {
	many(37, 4000, func(m *maker, s string) {
		aside(t, m.edit(count(s), true), m.edit(count(s), true), s)
	})
}

func TestP38InRow(t *testing.T) {
	many(38, 4000, func(m *maker, s string) {
		a := m.edit(count(s), true)
		x := applied(t, a, s)
		b := m.edit(count(x), true)
		y := applied(t, b, x)
		c := m.edit(count(y), true)
		ab, bc := composed(t, a, b), composed(t, b, c)
		if got := applied(t, ab, s); got != y {
			t.Fatalf("%v then %v: %q, want %q", a, b, got, y)
		}
		if l, r := composed(t, ab, c), composed(t, a, bc); !slices.Equal(l, r) {
			t.Fatalf("%v, %v, %v: %v and %v", a, b, c, l, r)
		}
		d := m.edit(count(s), true)
		atOnce, _ := transformed(t, d, ab)
		d, _ = transformed(t, d, a)
		d, _ = transformed(t, d, b)
		p, q := Weight(d)
		if pp, qq := Weight(atOnce); p != pp || q != qq {
			t.Fatalf("behind both %v, behind the composed one %v", d, atOnce)
		}
	})
}

func TestP39Back(t *testing.T) {
	many(39, 4000, func(m *maker, s string) {
		e := m.edit(count(s), true)
		back, bad := Invert(e, s)
		if bad != api.OK {
			t.Fatal(bad)
		}
		isForm(t, back)
		x := applied(t, e, s)
		if got := applied(t, back, x); got != s {
			t.Fatalf("%v and back: %q, want %q", e, got, s)
		}
		if got := applied(t, composed(t, e, back), s); got != s {
			t.Fatalf("%v and back, composed: %q, want %q", e, got, s)
		}
		again, bad := Invert(back, x)
		if bad != api.OK || !slices.Equal(again, e) {
			t.Fatalf("the inverse of the inverse of %v: %v, %d", e, again, bad)
		}
	})
}

func TestP310Nothing(t *testing.T) {
	many(310, 2000, func(m *maker, s string) {
		e := m.edit(count(s), true)
		from, to, _ := Size(e)
		before, _ := Same(from)
		after, _ := Same(to)
		if l, r := composed(t, before, e), composed(t, e, after); !slices.Equal(l, e) || !slices.Equal(r, e) {
			t.Fatalf("%v: %v, %v", e, l, r)
		}
		if one, two := transformed(t, e, before); !slices.Equal(one, e) || !slices.Equal(two, after) {
			t.Fatalf("%v beside nothing: %v, %v", e, one, two)
		}
		if one, two := transformed(t, before, e); !slices.Equal(one, after) || !slices.Equal(two, e) {
			t.Fatalf("nothing beside %v: %v, %v", e, one, two)
		}
	})
}

func TestP311OneForm(t *testing.T) {
	rnd := rand.New(rand.NewSource(311))
	some := append(unfit(), keep(1), keep(2), drop(1), drop(2), ins("a"), ins("é"), ins("bc"))
	for range 4000 {
		var l parts
		for range rnd.Intn(12) {
			l = append(l, some[len(some)-1-rnd.Intn(rnd.Intn(len(some))+1)])
		}
		isForm(t, Norm(l...))
	}
	for at := range 5 {
		for k := range 5 - at {
			for _, s := range []string{"", "é", "xy"} {
				e, bad := Replace(4, at, k, s)
				if bad != api.OK {
					t.Fatal(bad)
				}
				isForm(t, e)
			}
		}
	}
}

func TestP312Cursors(t *testing.T) {
	many(312, 2000, func(m *maker, s string) {
		e := m.edit(count(s), true)
		x := []rune(applied(t, e, s))
		for _, ahead := range []bool{false, true} {
			last := 0
			for at := range count(s) + 1 {
				to, bad := Cursor(e, at, ahead)
				if bad != api.OK || to < last || to > len(x) {
					t.Fatalf("%v at %d: %d, %d", e, at, to, bad)
				}
				last = to
			}
		}
		a := m.edit(count(s), false)
		y := applied(t, a, s)
		b := m.edit(count(y), false)
		c := composed(t, a, b)
		for _, ahead := range []bool{false, true} {
			for at := range count(s) + 1 {
				mid, _ := Cursor(a, at, ahead)
				both, _ := Cursor(b, mid, ahead)
				if once, _ := Cursor(c, at, ahead); once != both {
					t.Fatalf("%v then %v, from %d: %d, at once %d", a, b, at, both, once)
				}
			}
		}
	})
}

// What a cursor stands behind and is kept, it stands behind still.
func TestP36CursorPlace(t *testing.T) {
	many(36, 2000, func(m *maker, s string) {
		e := m.edit(count(s), true)
		l, x := []rune(s), []rune(applied(t, e, s))
		puts, _ := places(e, len(l))
		for at := range len(l) + 1 {
			want := 0
			for i := range at {
				want += count(puts[i])
				if slices.Contains(x, l[i]) {
					want++
				}
			}
			if to, _ := Cursor(e, at, false); to != want {
				t.Fatalf("%v at %d: %d, want %d", e, at, to, want)
			}
			if to, _ := Cursor(e, at, true); to != want+count(puts[at]) {
				t.Fatalf("%v at %d, ahead: %d, want %d", e, at, to, want+count(puts[at]))
			}
		}
	})
}

// What is handed in is neither changed nor kept, and what is answered is new memory, spare room too.
func TestMemory(t *testing.T) {
	room := func(e ...api.Part) parts { return append(make(parts, 0, 8), e...) }
	a := room(keep(1), ins("xy"), drop(1), keep(1))
	b := room(drop(1), keep(1), ins("z"), keep(1))
	c := room(ins("u"), drop(4))
	var kept []parts
	for _, l := range []parts{a, b, c} {
		kept = append(kept, slices.Clone(l[:8]))
	}
	answers := func() []parts {
		one, two, _ := Transform(a, b)
		both, _ := Compose(a, c)
		back, _ := Invert(a, "123")
		return []parts{one, two, both, back, Norm(a...), Norm(b[:1]...)}
	}
	first := answers()
	want := make([]parts, len(first))
	for i, l := range first {
		want[i] = slices.Clone(l)
	}
	for i, l := range first {
		full := l[:cap(l)]
		for k := range full {
			full[k] = drop(77)
		}
		for k := i + 1; k < len(first); k++ {
			if !slices.Equal(first[k], want[k]) {
				t.Fatalf("answers %d and %d share memory", i, k)
			}
		}
	}
	for i, l := range []parts{a, b, c} {
		if !slices.Equal(l[:8], kept[i]) {
			t.Fatalf("argument %d was changed", i)
		}
	}
	for i, l := range answers() {
		if !slices.Equal(l, want[i]) {
			t.Fatalf("answer %d: %v, was %v", i, l, want[i])
		}
	}
}

// Many parts cost no more than their number.
func TestManyParts(t *testing.T) {
	const n = 1 << 18
	l := slices.Repeat(parts{ins("é"), drop(1)}, n)
	e := Norm(l...)
	if len(e) != 2 || e[0].N != n || e[1].N != n {
		t.Fatal(len(e))
	}
	s := strings.Repeat("a", n)
	a := Norm(slices.Repeat(parts{ins("x"), keep(1)}, n)...)
	cut := Norm(slices.Repeat(parts{drop(1), keep(1)}, n)...)
	if x := applied(t, composed(t, a, cut), s); x != s {
		t.Fatal(len(x))
	}
	if x := applied(t, composed(t, e, cut[:n]), s); count(x) != n/2 {
		t.Fatal(count(x))
	}
	one, two := transformed(t, a, e)
	if len(one) != 3 || len(two) != 2*n+1 {
		t.Fatal(len(one), len(two))
	}
}

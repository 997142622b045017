package match

import (
	"math/rand"
	"regexp"
	"slices"
	"strconv"
	"strings"
	"testing"

	"sealskin/api"
	"sealskin/edit"
)

// node is a pattern as a tree, told by chance: what it says as a text, and what it is made of.
type node struct {
	text        string
	kind        int
	is          func(rune) bool
	group       int
	kids        []node
	least, most int // most -1: no bound
	lazy        bool
	hollow      bool // it may stand where nothing is
}

// teller tells patterns by chance.
type teller struct {
	*rand.Rand
	groups int
	filled bool // no part that may stand where nothing is stands several times
}

func (g *teller) rows(depth int) node {
	n := node{kind: rows}
	var l []string
	for {
		x := g.row(depth)
		n.kids = append(n.kids, x)
		l = append(l, x.text)
		n.hollow = n.hollow || x.hollow
		if g.Intn(4) > 0 {
			n.text = strings.Join(l, "|")
			return n
		}
	}
}

func (g *teller) row(depth int) node {
	n := node{kind: row, hollow: true}
	for range g.Intn(4) {
		x := g.counted(depth)
		n.kids = append(n.kids, x)
		n.text += x.text
		n.hollow = n.hollow && x.hollow
	}
	return n
}

func (g *teller) counted(depth int) node {
	p := g.part(depth)
	if g.Intn(2) == 0 || g.filled && p.hollow {
		return p
	}
	n := node{kind: counted, kids: []node{p}}
	lo, hi := g.Intn(3), g.Intn(3)
	switch g.Intn(6) {
	case 0:
		n.text, n.least, n.most = "*", 0, -1
	case 1:
		n.text, n.least, n.most = "+", 1, -1
	case 2:
		n.text, n.least, n.most = "?", 0, 1
	case 3:
		n.text, n.least, n.most = "{"+strconv.Itoa(lo)+"}", lo, lo
	case 4:
		n.text, n.least, n.most = "{"+strconv.Itoa(lo)+",}", lo, -1
	case 5:
		n.text, n.least, n.most = "{"+strconv.Itoa(lo)+","+strconv.Itoa(lo+hi)+"}", lo, lo+hi
	}
	if g.Intn(3) == 0 {
		n.text += "?"
		n.lazy = true
	}
	n.text = p.text + n.text
	n.hollow = p.hollow || n.least == 0
	return n
}

func (g *teller) part(depth int) node {
	if depth > 0 && g.Intn(3) == 0 {
		g.groups++
		number := g.groups
		x := g.rows(depth - 1)
		return node{text: "(" + x.text + ")", kind: group, group: number, kids: []node{x}, hollow: x.hollow}
	}
	in := func(s string) func(rune) bool { return func(r rune) bool { return strings.ContainsRune(s, r) } }
	sets := []node{
		{text: "a", is: in("a")}, {text: "b", is: in("b")}, {text: "é", is: in("é")}, {text: "\\n", is: in("\n")}, {text: ".", is: in("abé1")},
		{text: "[ab]", is: in("ab")}, {text: "[^a-b]", is: in("é\n1")}, {text: "\\w", is: in("ab1")}, {text: "[\\d\\s]", is: in("1\n")},
		{text: "^", kind: begins, hollow: true}, {text: "$", kind: ends, hollow: true},
	}
	return sets[g.Intn(len(sets))]
}

// state is a step, linked to what comes behind it.
type state struct {
	kind        int
	is          func(rune) bool
	number      int
	here, there *state
}

// linker links steps from the end to the beginning, as the document tells them, and counts them.
type linker struct{ steps int }

func (k *linker) add(s state) *state {
	k.steps++
	return &s
}

func (k *linker) link(n node, next *state) *state {
	switch n.kind {
	case eats:
		return k.add(state{kind: eat, is: n.is, here: next})
	case begins:
		return k.add(state{kind: begin, here: next})
	case ends:
		return k.add(state{kind: end, here: next})
	case group:
		behind := k.add(state{kind: save, number: 2*n.group + 1, here: next})
		return k.add(state{kind: save, number: 2 * n.group, here: k.link(n.kids[0], behind)})
	case row:
		for i := len(n.kids) - 1; i >= 0; i-- {
			next = k.link(n.kids[i], next)
		}
		return next
	case rows:
		last := len(n.kids) - 1
		rest := k.link(n.kids[last], next)
		for i := last - 1; i >= 0; i-- {
			out := k.add(state{kind: jump, here: next})
			rest = k.add(state{kind: fork, here: k.link(n.kids[i], out), there: rest})
		}
		return rest
	}
	rest := k.rest(n, next)
	for range n.least {
		rest = k.link(n.kids[0], rest)
	}
	return rest
}

func (k *linker) rest(n node, next *state) *state {
	turn := func(f *state) *state {
		if n.lazy {
			f.here, f.there = f.there, f.here
		}
		return f
	}
	if n.most < 0 {
		f := k.add(state{kind: fork, there: next})
		f.here = k.link(n.kids[0], k.add(state{kind: jump, here: f}))
		return turn(f)
	}
	rest := next
	for range n.most - n.least {
		rest = turn(k.add(state{kind: fork, here: k.link(n.kids[0], rest), there: next}))
	}
	return rest
}

// walker goes all ways from one place in their order, and leaves out those that come where one was.
type walker struct {
	text  []rune
	end   *state
	saved []int
	been  map[visit]bool
}

type visit struct {
	s  *state
	at int
}

func (w *walker) goes(s *state, at int) bool {
	if s == w.end {
		w.saved[1] = at
		return true
	}
	if w.been[visit{s, at}] {
		return false
	}
	w.been[visit{s, at}] = true
	switch s.kind {
	case eat:
		return at < len(w.text) && s.is(w.text[at]) && w.goes(s.here, at+1)
	case begin:
		return (at == 0 || w.text[at-1] == '\n') && w.goes(s.here, at)
	case end:
		return (at == len(w.text) || w.text[at] == '\n') && w.goes(s.here, at)
	case save:
		kept := slices.Clone(w.saved)
		w.saved[s.number] = at
		if w.goes(s.here, at) {
			return true
		}
		w.saved = kept
		return false
	case fork:
		return w.goes(s.here, at) || w.goes(s.there, at)
	}
	return w.goes(s.here, at)
}

// model finds as the document tells it: place by place.
func model(first, end *state, groups int, text []rune, from int) []int {
	for at := from; at <= len(text); at++ {
		w := walker{text, end, slices.Repeat([]int{-1}, 2*groups+2), map[visit]bool{}}
		w.saved[0] = at
		if w.goes(first, at) {
			return w.saved
		}
	}
	return nil
}

func (g *teller) line(most int) string {
	var l []rune
	for range g.Intn(most + 1) {
		l = append(l, []rune{'a', 'b', 'a', 'é', '\n', '1'}[g.Intn(2+g.Intn(5))])
	}
	return string(l)
}

// tell is a pattern, and its steps.
func (g *teller) tell(t *testing.T) (node, *Pattern, *state, *state) {
	t.Helper()
	for {
		g.groups = 0
		n := g.rows(3)
		if len(n.text) > 60 {
			continue
		}
		p := compiled(t, n.text)
		k, last := linker{}, &state{}
		first := k.link(n, last)
		if k.steps != len(p.steps) || p.Groups() != g.groups {
			t.Fatalf("%q: %d steps, %d groups, want %d, %d", n.text, len(p.steps), p.Groups(), k.steps, g.groups)
		}
		return n, p, first, last
	}
}

func TestP122AsTold(t *testing.T) {
	g := &teller{Rand: rand.New(rand.NewSource(1))}
	for range 6000 {
		n, p, first, last := g.tell(t)
		text := g.line(8)
		l := []rune(text)
		for from := range len(l) + 1 {
			want := model(first, last, g.groups, l, from)
			if got, bad := p.Find(text, from); !slices.Equal(got, want) || bad != api.OK {
				t.Fatalf("%q in %q from %d: %v, %d, want %v", n.text, text, from, got, bad, want)
			}
		}
		var want [][]int
		for from := 0; from <= len(l); {
			f := model(first, last, g.groups, l, from)
			if f == nil {
				break
			}
			want = append(want, f)
			from = max(f[1], from)
			if f[0] == f[1] {
				from = f[1] + 1
			}
		}
		if got, bad := p.All(text); !slices.EqualFunc(got, want, slices.Equal[[]int]) || bad != api.OK {
			t.Fatalf("%q in %q: %v, %d, want %v", n.text, text, got, bad, want)
		}
	}
}

// Where nothing stands several times, other programs that go by the same order tell the same.
func TestP122AsOthers(t *testing.T) {
	g := &teller{Rand: rand.New(rand.NewSource(2)), filled: true}
	for range 3000 {
		n, p, _, _ := g.tell(t)
		text := g.line(12)
		other := regexp.MustCompile("(?m:" + n.text + ")")
		want := other.FindStringSubmatchIndex(text)
		for i, b := range want {
			if b >= 0 {
				want[i] = len([]rune(text[:b]))
			}
		}
		if got, bad := p.Find(text, 0); !slices.Equal(got, want) || bad != api.OK {
			t.Fatalf("%q in %q: %v, %d, want %v", n.text, text, got, bad, want)
		}
	}
}

func TestP124Apart(t *testing.T) {
	g := &teller{Rand: rand.New(rand.NewSource(3))}
	for range 2000 {
		n, p, _, _ := g.tell(t)
		text := g.line(15)
		l, bad := p.All(text)
		if bad != api.OK {
			t.Fatal(bad)
		}
		for i, x := range l {
			if len(x) != 2+2*p.Groups() || x[0] > x[1] || i > 0 && (x[0] < l[i-1][1] || x[0] <= l[i-1][0] && x[1] <= l[i-1][1]) {
				t.Fatalf("%q in %q: %v", n.text, text, l)
			}
		}
	}
}

func stands(t *testing.T, pattern, text string, at int) bool {
	t.Helper()
	f := found(t, pattern, text, at)
	return f != nil && f[0] == at
}

func TestP126Either(t *testing.T) {
	g := &teller{Rand: rand.New(rand.NewSource(4))}
	for range 700 {
		a, b := g.row(2).text, g.row(2).text
		if len(a)+len(b) > 100 {
			continue
		}
		text := g.line(8)
		for at := range len([]rune(text)) + 1 {
			if stands(t, a+"|"+b, text, at) != (stands(t, a, text, at) || stands(t, b, text, at)) {
				t.Fatalf("%q or %q in %q at %d", a, b, text, at)
			}
			if stands(t, "("+a+")?"+b, text, at) != (stands(t, a+b, text, at) || stands(t, b, text, at)) {
				t.Fatalf("%q, if at all, and %q in %q at %d", a, b, text, at)
			}
		}
	}
}

func TestP127Swapped(t *testing.T) {
	g := &teller{Rand: rand.New(rand.NewSource(5))}
	for range 2000 {
		n, p, _, _ := g.tell(t)
		text := g.line(15)
		e, bad := p.Swap(text, "$0")
		if s, f := edit.Apply(e, text); s != text || bad != api.OK || f != api.OK {
			t.Fatalf("%q in %q: %v, %d, %d", n.text, text, e, bad, f)
		}
		// What is put is what a plain loop puts together.
		want, from := "", 0
		l, all := []rune(text), allOf(t, n.text, text)
		for _, x := range all {
			want += string(l[from:x[0]]) + "<" + string(l[x[0]:x[1]]) + ">"
			from = x[1]
		}
		want += string(l[from:])
		if got := swapped(t, n.text, text, "<$0>"); got != want {
			t.Fatalf("%q in %q: %q, want %q", n.text, text, got, want)
		}
	}
}

// Whatever a pattern is: Compile ends, and tells a place of it.
func TestP121AnyPattern(t *testing.T) {
	r := rand.New(rand.NewSource(6))
	signs := []string{"a", "b", "é", "(", ")", "[", "]", "{", "}", "|", "*", "+", "?", "\\", "^", "$", ".", "-", ",", "0", "1", "2", "d", "w", "\n", "{1,2}", "[a-c]"}
	below := regexp.MustCompile(`\{\d+,\d+$`)
	good := 0
	for range 50000 {
		var b strings.Builder
		for range r.Intn(12) {
			b.WriteString(signs[r.Intn(len(signs))])
		}
		s := b.String()
		p, at, bad := Compile(s)
		if bad == api.OK {
			good++
			if p == nil || at != 0 {
				t.Fatalf("%q: %d", s, at)
			}
			continue
		}
		l := []rune(s)
		if p != nil || bad != api.ErrWord || at < 0 || at > len(l) {
			t.Fatalf("%q: %d, %d", s, at, bad)
		}
		// Up to that place it can go on: something makes a pattern of it. (But a number below the one ahead is told behind its last digit, whether or not another one could help.)
		if !goesOn(string(l[:at])) && !below.MatchString(string(l[:at])) {
			t.Fatalf("%q can't go on ahead of %d", s, at)
		}
		// And from there on nothing does.
		if at < len(l) && goesOn(string(l[:at+1])) {
			t.Fatalf("%q can go on behind %d", s, at)
		}
	}
	if good < 5000 {
		t.Error(good)
	}
}

// goesOn tells whether one of some endings makes a pattern of a text.
func goesOn(s string) bool {
	for _, inner := range []string{"", "a", "}", "1}", "2}", "9}", "99}", "0}", ",}", "]", "a]", "-]", "\U0010ffff]", ".", ".]"} {
		for depth := range 12 {
			if _, _, bad := Compile(s + inner + strings.Repeat(")", depth)); bad == api.OK {
				return true
			}
		}
	}
	return false
}

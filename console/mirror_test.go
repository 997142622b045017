package console

import (
	"fmt"
	"math/rand"
	"slices"
	"strings"
	"testing"

	"sealskin/api"
	"sealskin/lang"
	"sealskin/lines"
	"sealskin/match"
	"sealskin/watch"
	"sealskin/world"
)

// writer makes texts at random, and knows, by the layers below, what each line answers.
type writer struct {
	*rand.Rand
	p      api.Policy
	names  []string
	w      *world.World
	done   []api.Event
	lines  []string // the text's, the policy's among them
	report []string // of the lines behind it
}

// houses is policies: two labels; four, of which two do not see one another; one of which has nearly nothing.
var houses = []string{
	"label low level 0\nlabel high level 1\nclient low secret s\nclient high secret t down\nclient low secret %20",
	"label low level 0\nlabel left level 1 comps 0\nlabel right level 1 comps 1\nlabel top level 2 comps 0,1\nclient low secret a\nclient left secret b down\nclient right secret c down\nclient top secret d down",
	"label a level 0\nlabel b level 3\nquota a chars 9 ops 6 seats 1\nclient a secret x\nclient b secret y down\nclient a secret z\nclient b secret w",
}

func newWriter(t *testing.T, seed int64) *writer {
	t.Helper()
	r := rand.New(rand.NewSource(seed))
	s := houses[r.Intn(len(houses))]
	p, names, _, bad := lang.Parse(s)
	if bad != api.OK {
		t.Fatal(bad)
	}
	w, bad := world.New(p)
	if bad != api.OK {
		t.Fatal(bad)
	}
	return &writer{Rand: r, p: p, names: names, w: w, lines: append(strings.Split(s, "\n"), "go")}
}

func (m *writer) text() string { return strings.Join(m.lines, "\n") + "\n" }

func (m *writer) told() string {
	if len(m.report) == 0 {
		return ""
	}
	return strings.Join(m.report, "\n") + "\n"
}

// say is one more line, and what it answers.
func (m *writer) say(answer, line string) {
	m.lines = append(m.lines, line)
	m.report = append(m.report, answer)
}

func (m *writer) do(e api.Event) api.Errno {
	m.done = append(m.done, e)
	return m.w.Do(e)
}

// event is a line that is one, its numbers as the chapter's table has them.
func (m *writer) event(e api.Event, form string, args ...any) {
	answer := "ok"
	if bad := m.do(e); bad != api.OK {
		answer = fmt.Sprintf("error %d", int(bad))
	}
	m.say(answer, fmt.Sprintf(form, args...))
}

func (m *writer) letters() string {
	return []string{"", "a", "ab", "a b", " ", "é", "\"", "x y z", "𝄞;", "#"}[m.Intn(10)]
}

// some is a line, whatever it is.
func (m *writer) some() {
	who := m.Intn(len(m.p.Entries))
	if m.Intn(40) == 0 {
		who = len(m.p.Entries) + m.Intn(3)
	}
	switch k := m.Intn(100); {
	case k < 35:
		m.carry(m.Intn(5))
	case k < 38:
		m.tick([]int{0, 1, 2, 7, 30}[m.Intn(5)])
	case k < 75:
		m.act(who, m.Intn(200))
	case k < 95:
		m.ask(who)
	default:
		m.purged()
	}
}

func (m *writer) carry(times int) {
	for range times {
		for who := range m.p.Entries {
			up, down := m.w.Waiting(who)
			if up > 0 {
				m.do(api.Event{Kind: api.EUp, Client: who})
			}
			if down > 0 {
				m.do(api.Event{Kind: api.EDeliver, Client: who})
			}
		}
	}
	m.say("ok", fmt.Sprintf("carry %d", times))
}

func (m *writer) tick(times int) {
	for range times {
		m.do(api.Event{Kind: api.ETick})
	}
	m.say("ok", fmt.Sprintf("tick %d", times))
}

func (m *writer) act(who, k int) {
	size := len([]rune(m.w.Client(who).View()))
	at, n, side, text := m.Intn(size+1), m.Intn(3)/2, m.Intn(2), m.letters()
	target := m.Intn(len(m.p.Labels))
	switch {
	case k < 40:
		m.event(api.Event{Kind: api.ELogin, Client: who}, "login %d", who)
	case k < 44:
		m.event(api.Event{Kind: api.ELogin, Client: who, Text: text}, "login %d %s", who, text)
	case k < 90:
		m.event(api.Event{Kind: api.EEdit, Client: who, At: at, N: n, Text: text}, "edit %d %d %d %s", who, at, n, text)
	case k < 95:
		m.event(api.Event{Kind: api.EEdit, Client: who, At: at, N: 1}, "edit %d %d 1", who, at)
	case k < 125:
		m.carry(4) // while something is pending nothing can be let down
		at = m.own(who, at)
		m.event(api.Event{Kind: api.EDown, Client: who, At: at, N: 1 + n, Target: target}, "down %d %d %d %d", who, at, 1+n, target)
	case k < 140:
		m.event(api.Event{Kind: api.ECursor, Client: who, At: at}, "cursor %d %d", who, at)
	case k < 142:
		m.event(api.Event{Kind: api.EBye, Client: who}, "bye %d", who)
	case k < 150:
		m.event(api.Event{Kind: api.EUndo, Client: who}, "undo %d", who)
	case k < 156:
		m.event(api.Event{Kind: api.ERedo, Client: who}, "redo %d", who)
	case k < 166:
		m.event(api.Event{Kind: api.EUp, Client: who, At: n}, "up %d %d", who, n)
	case k < 176:
		m.event(api.Event{Kind: api.EDeliver, Client: who, At: n}, "deliver %d %d", who, n)
	case k < 182:
		m.event(api.Event{Kind: api.ELose, Client: who, At: side, N: n}, "lose %d %d %d", who, side, n)
	case k < 188:
		m.event(api.Event{Kind: api.EDouble, Client: who, At: side, N: n}, "double %d %d %d", who, side, n)
	case k < 194:
		cut := m.Intn(300)
		m.event(api.Event{Kind: api.ETorn, Client: who, At: n, N: cut}, "torn %d %d %d", who, n, cut)
	case k < 197:
		m.event(api.Event{Kind: api.ECrash}, "crash")
	default:
		m.event(api.Event{Kind: api.ECheck}, "check")
	}
}

// own is the first place from one on of what a client may let down, if there is one.
func (m *writer) own(who, from int) int {
	if who >= len(m.p.Entries) {
		return from
	}
	label := m.p.Entries[who].Label
	for at, e := range m.w.Server().Core().Seen(label) {
		if at >= from && e.Label == label {
			return at
		}
	}
	return from
}

func quoted(s string) string { return `"` + strings.ReplaceAll(s, "\n", "␤") + `"` }

// list is something told of each, behind a word.
func list[T any](word string, l []T, form func(T) string) string {
	for _, x := range l {
		word += "; " + form(x)
	}
	return word
}

// ask is a line that asks for something of a client, or a label.
func (m *writer) ask(who int) {
	k, line := m.Intn(10), m.lineOf(who)
	switch k {
	case 8:
		m.label(m.Intn(len(m.p.Labels) + 1))
		return
	case 9:
		m.audits()
		return
	}
	c := m.w.Client(who)
	if c == nil {
		m.say("error 1", line[k])
		return
	}
	up, down := m.w.Waiting(who)
	state, conn := c.State()
	at, open, told := m.w.Server().State(who)
	isOpen := map[bool]int{true: 1}[open]
	m.say([]string{
		fmt.Sprintf("show %d %d %d %d %s", state, conn, c.Rev(), c.Cursor(), quoted(c.View())),
		list("told", c.Told(), func(x api.Told) string { return fmt.Sprintf("%d %d", x.Seq, int(x.Err)) }),
		list("peers", c.Peers(), func(x api.Peer) string { return fmt.Sprintf("%d %d", x.Who, x.At) }),
		fmt.Sprintf("way %d %d", up, down),
		fmt.Sprintf("server %d %d %d %d", at, isOpen, told, m.w.Server().Locked(who)),
		lineAnswer(c.View(), 0, 2),
		findAnswer(c.View(), "a"),
		grepAnswer(c.View(), "(a|b)+"),
	}[k], line[k])
}

func (m *writer) lineOf(who int) []string {
	var l []string
	for _, form := range []string{"show %d", "told %d", "peers %d", "way %d", "server %d", "line %d 0 2", "find %d a", "grep %d (a|b)+"} {
		l = append(l, fmt.Sprintf(form, who))
	}
	return l
}

func lineAnswer(view string, row, column int) string {
	x, _ := lines.New(view)
	at, bad := x.At(row, column)
	if bad != api.OK {
		return "error 1"
	}
	text, _ := x.Line(row)
	from, to, bad := x.Word(at)
	if bad != api.OK {
		return fmt.Sprintf("line %d %s", at, quoted(text))
	}
	return fmt.Sprintf("line %d %d %d %s", at, from, to, quoted(text))
}

func findAnswer(view, text string) string {
	x, _ := lines.New(view)
	l, _ := x.Find(text)
	return strings.Join(append([]string{"find"}, strings.Fields(strings.Trim(fmt.Sprint(l), "[]"))...), " ")
}

func grepAnswer(view, pattern string) string {
	p, _, _ := match.Compile(pattern)
	l, _ := p.All(view)
	return list("grep", l, func(x []int) string { return fmt.Sprintf("%d %d", x[0], x[1]) })
}

func (m *writer) label(i int) {
	line := fmt.Sprintf("label %d", i)
	if i == len(m.p.Labels) {
		m.say("error 10", line)
		return
	}
	c := m.w.Server().Core()
	chars, commits := c.Count(i)
	m.say(fmt.Sprintf("label %s %d %d %d %s", m.names[i], c.Rev(i), chars, commits, quoted(c.Text(i))), line)
}

func (m *writer) audits() {
	c := m.w.Server().Core()
	s := list("audits", c.Audits(), func(a api.Audit) string {
		return fmt.Sprintf("%d %d %d %d %s", a.Who, a.Target, a.At, a.Commit, quoted(a.Text))
	})
	root := c.Root()
	m.say(fmt.Sprintf("%s; %d", s, 256*int(root[0])+int(root[1])), "audits")
}

func (m *writer) purged() {
	label := m.Intn(len(m.p.Labels) + 2)
	most := len(m.done) - 1 + m.Intn(3)
	if most < 0 || m.Intn(2) == 0 {
		most = 5000
	}
	line := fmt.Sprintf("purged %d %d", label, most)
	if len(m.done) > most {
		m.say("error 4", line)
		return
	}
	part := watch.Purge(m.p, label, m.done)
	a, _ := watch.Observe(m.p, label, m.done)
	b, _ := watch.Observe(m.p, label, part)
	m.say(fmt.Sprintf("purged %d %d", len(part), watch.Alike(a, b)), line)
}

// written is a text by a seed.
func written(t *testing.T, seed int64, lines int) *writer {
	t.Helper()
	m := newWriter(t, seed)
	for who := range m.p.Entries {
		m.event(api.Event{Kind: api.ELogin, Client: who}, "login %d", who)
	}
	m.carry(5)
	for range lines {
		m.some()
	}
	return m
}

func TestP232Mirror(t *testing.T) {
	words := map[string]int{}
	for seed := range int64(200) {
		m := written(t, seed, 120)
		if r := report(t, m.text()); r != m.told() {
			t.Fatalf("%d: %s", seed, firstUnlike(m, r))
		}
		for _, s := range m.report {
			word, _, _ := strings.Cut(s, " ")
			words[word]++
			if strings.HasPrefix(s, "audits") && strings.Count(s, ";") > 2 {
				words["two audits"]++
			}
			var stay, same int
			if n, _ := fmt.Sscanf(s, "purged %d %d", &stay, &same); n == 2 && same < stay {
				words["released"]++
			}
		}
	}
	for _, word := range []string{"ok", "error", "show", "told", "told;", "peers", "peers;", "way", "server", "line", "find", "grep", "grep;", "label", "audits;", "two audits", "purged", "released"} {
		if words[word] == 0 {
			t.Errorf("no line answered %s: %v", word, words)
		}
	}
}

// firstUnlike is the first line of a report that is not what it should be.
func firstUnlike(m *writer, r string) string {
	got := strings.Split(r, "\n")
	at := len(m.lines) - len(m.report)
	for i, want := range m.report {
		if i >= len(got) || got[i] != want {
			return fmt.Sprintf("%q: want %q, got %q", m.lines[at+i], want, got[min(i, len(got)-1)])
		}
	}
	return "the report is too long"
}

// Of a text in which nobody lets down anything, no label can tell anything of what it does not see.
func TestP232PurgedClean(t *testing.T) {
	gone := 0
	for seed := range int64(60) {
		m := written(t, seed, 150)
		clean := slices.DeleteFunc(m.lines, func(s string) bool { return strings.HasPrefix(s, "down ") })
		s := strings.Join(clean, "\n") + "\n"
		for label := range m.p.Labels {
			s += fmt.Sprintf("purged %d 999999\n", label)
		}
		l := strings.Split(strings.TrimSuffix(report(t, s), "\n"), "\n")
		least, most := 1<<30, 0
		for _, x := range l[len(l)-len(m.p.Labels):] {
			var stay, same int
			if n, err := fmt.Sscanf(x, "purged %d %d", &stay, &same); n != 2 || err != nil || stay != same || stay == 0 {
				t.Errorf("%d: %q", seed, x)
			}
			least, most = min(least, stay), max(most, stay)
		}
		if least < most {
			gone++
		}
	}
	if gone == 0 {
		t.Error("all stayed")
	}
}

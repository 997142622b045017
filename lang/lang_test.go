package lang

import (
	"math"
	"math/rand"
	"reflect"
	"slices"
	"strconv"
	"strings"
	"testing"

	"sealskin/api"
	"sealskin/lattice"
)

var full = api.Quota{Chars: 4096, Ops: 4096, Seats: 4096}

// refused holds that a text is no policy: at which line, and why.
func refused(t *testing.T, s string, line int, why api.Errno) {
	t.Helper()
	p, n, at, bad := Parse(s)
	if !reflect.DeepEqual(p, api.Policy{}) || len(n) != 0 || at != line || bad != why {
		t.Errorf("%.80q: %v, %q, %d, %d; want line %d, %d", s, p, n, at, bad, line, why)
	}
}

func parsed(t *testing.T, s string) (api.Policy, []string) {
	t.Helper()
	p, n, at, bad := Parse(s)
	if at != 0 || bad != api.OK {
		t.Fatalf("%.200q: line %d, %d", s, at, bad)
	}
	return p, n
}

func printed(t *testing.T, p api.Policy, given ...string) string {
	t.Helper()
	s, bad := Print(p, given...)
	if bad != api.OK {
		t.Fatalf("%v, %q: %d", p, given, bad)
	}
	return s
}

func TestP91Example(t *testing.T) {
	p, n := parsed(t, "label low level 0\nclient low secret pw")
	want := api.Policy{Labels: []api.Label{{}}, Quotas: []api.Quota{full}, Entries: []api.Entry{{Secret: "pw"}}}
	if !reflect.DeepEqual(p, want) || !slices.Equal(n, []string{"low"}) {
		t.Error(p, n)
	}
	refused(t, "client high secret x\nlabel high level 1", 1, api.ErrWord)
}

func TestP91AllLines(t *testing.T) {
	p, n := parsed(t, strings.Join([]string{
		"# a policy",
		"label low level 0",
		"label abcdefghijkl level 15 comps 0,1,9,10,31",
		"",
		"client abcdefghijkl secret down down",
		"quota low chars 0 ops 4096 seats 10",
		"label mid level 7 comps 5",
		"client low secret %00aZ9%ff%20%25",
		"client low secret down",
		"quota mid chars 1 ops 2 seats 3",
		"#quota mid chars 1 ops 2 seats 3",
		"client mid secret 0123456789ABCDEF",
	}, "\n"))
	want := api.Policy{
		Labels: []api.Label{{}, {Level: 15, Comps: 1<<31 | 1<<10 | 1<<9 | 3}, {Level: 7, Comps: 32}},
		Quotas: []api.Quota{{Chars: 0, Ops: 4096, Seats: 10}, full, {Chars: 1, Ops: 2, Seats: 3}},
		Entries: []api.Entry{
			{Label: 1, Secret: "down", Down: true}, {Label: 0, Secret: "\x00aZ9\xff %"}, {Label: 0, Secret: "down"}, {Label: 2, Secret: "0123456789ABCDEF"},
		},
	}
	if !reflect.DeepEqual(p, want) || !slices.Equal(n, []string{"low", "abcdefghijkl", "mid"}) {
		t.Error(p, n)
	}
}

// Each of these lines can't stand behind two right ones.
func TestP91WrongLines(t *testing.T) {
	const ahead = "label low level 0\nquota low chars 1 ops 2 seats 3\nclient low secret s\nlabel mid level 1 comps 3\n"
	for _, s := range []string{
		" ", "  ", "\t", "\r", "x", "go", "label", "quota", "client", "Label a level 1", "labels a level 1", " label a level 1", " # x", "label a level 1 ", "label a level 1\r", "label a level 1 # x",
		"label  level 1", "label a  level 1", "label a level  1", "label  a level 1", "label a\tlevel 1", "label a level", "label a level ", "label a levels 1", "label a 1", "label a level 1 1",
		"label A level 1", "label a1 level 1", "label a_b level 1", "label é level 1", "label a\xff level 1", "label abcdefghijklm level 1", "label ` level 1", "label { level 1",
		"label low level 1", "label low level 0", "label a level 0", "label a level 1 comps 3", "label mid level 2",
		"label a level 16", "label a level 9999", "label a level 10000", "label a level 01", "label a level 00", "label a level -1", "label a level +1", "label a level 1.0", "label a level x", "label a level ١", "label a level 1/", "label a level :",
		"label a level 1 comps", "label a level 1 comps ", "label a level 1 comps 32", "label a level 1 comps -1", "label a level 1 comps 1,1", "label a level 1 comps 2,1", "label a level 1 comps 1,", "label a level 1 comps ,1",
		"label a level 1 comps 1,,2", "label a level 1 comps 1, 2", "label a level 1 comps 01", "label a level 1 comps 1,02", "label a level 1 comp 1", "label a level 1 comps 1 2", "label a level 1 comps 1;2", "label a level 1 comps 1 comps 2", "label a level 1 comps 0,1,2,33",
		"quota low chars 1 ops 2 seats 3", "quota nobody chars 1 ops 2 seats 3", "quota mid chars 4097 ops 2 seats 3", "quota mid chars 1 ops 4097 seats 3", "quota mid chars 1 ops 2 seats 4097", "quota mid chars 1 ops 2 seats 03",
		"quota mid chars 1 ops 2", "quota mid chars 1 ops 2 seats", "quota mid chars 1 ops 2 seats ", "quota mid ops 2 chars 1 seats 3", "quota mid chars 1 ops 2 seats 3 4", "quota mid chars -1 ops 2 seats 3", "quota  chars 1 ops 2 seats 3",
		"quota mid chars 10000 ops 2 seats 3", "quota mid chars 1 op 2 seats 3", "quota mid chars 1 ops 2 seat 3", "quota mid char 1 ops 2 seats 3", "quota mid 1 2 3", "quota Mid chars 1 ops 2 seats 3",
		"client nobody secret s", "client  secret s", "client low secret", "client low secret ", "client low s", "client low secrets s", "client low secret s up", "client low secret s down ", "client low secret s down down", "client low secret  down", "client low secret s Down",
		"client low secret 0123456789abcdefg", "client low secret a%", "client low secret a%2", "client low secret %", "client low secret %%", "client low secret %2g", "client low secret %g2", "client low secret %2G", "client low secret %FF", "client low secret %2F", "client low secret %é",
		"client low secret %41", "client low secret %61", "client low secret %7a", "client low secret %5a", "client low secret %30", "client low secret %39", "client low secret a-b", "client low secret a,b", "client low secret é", "client low secret \xff", "client low secret a\x00", "client low secret #",
		"client low secret %20%20%20%20%20%20%20%20%20%20%20%20%20%20%20%20%20", "client low secret @", "client low secret [", "client low secret `", "client low secret {", "client low secret /", "client low secret :",
	} {
		refused(t, ahead+s, 5, api.ErrWord)
		refused(t, ahead+"\n# x\n"+s+"\nx", 7, api.ErrWord)
	}
	parsed(t, ahead)
}

// What is just right stands beside what is just wrong.
func TestP91RightLines(t *testing.T) {
	const ahead = "label low level 0\nlabel mid level 1 comps 3\nclient mid secret s\n"
	for _, s := range []string{
		"label a level 1", "label a level 15", "label abcdefghijkl level 2", "label z level 0 comps 3", "label a level 1 comps 0", "label a level 1 comps 31", "label a level 1 comps 3,4", "label lo level 9", "label level level 9 comps 1", "label label level 9",
		"quota low chars 4096 ops 4096 seats 4096", "quota low chars 0 ops 0 seats 0", "quota mid chars 9 ops 10 seats 100",
		"client low secret secret", "client low secret s", "client low secret s down", "client low secret %40%5b%60%7b%2f%3a", "client low secret %ff%fe", "client low secret AZaz09",
		"client low secret %20%20%20%20%20%20%20%20%20%20%20%20%20%20%20%20", "client low secret 0123456789abcdef",
		"", "#", "# \xff\x00", "#label",
	} {
		parsed(t, ahead+s)
	}
}

func TestP91TooManyLabels(t *testing.T) {
	var b strings.Builder
	for i := range 32 {
		b.WriteString("label " + Name(i) + " level " + strconv.Itoa(i%16) + " comps " + strconv.Itoa(i) + "\n")
	}
	b.WriteString("client a secret s\n")
	if p, n := parsed(t, b.String()); len(p.Labels) != 32 || len(p.Quotas) != 32 || len(n) != 32 || n[31] != "af" || p.Labels[31] != (api.Label{Level: 15, Comps: 1 << 31}) {
		t.Error(p, n)
	}
	refused(t, b.String()+"label more level 3 comps 1,2\n", 34, api.ErrWord)
	if p, _ := parsed(t, b.String()+"quota af chars 1 ops 1 seats 1"); p.Quotas[31].Chars != 1 || p.Quotas[30] != full {
		t.Error(p)
	}
}

func TestP91TooManyClients(t *testing.T) {
	s := "label a level 0\n" + strings.Repeat("client a secret s\n", 8)
	if p, _ := parsed(t, s); len(p.Entries) != 8 {
		t.Error(p)
	}
	refused(t, s+"client a secret s", 10, api.ErrWord)
}

func TestP91Long(t *testing.T) {
	const s = "label a level 0\nclient a secret s\n"
	long := s + "#" + strings.Repeat("x", api.MaxScript-len(s)-1)
	if p, _ := parsed(t, long); len(p.Entries) != 1 {
		t.Error(p)
	}
	refused(t, long+"x", 0, api.ErrLong)
	refused(t, "x\n"+long, 0, api.ErrLong)
	empty := s + strings.Repeat("\n", api.MaxScript-len(s)-1)
	parsed(t, empty+"\n")
	refused(t, empty+"x", api.MaxScript-len(s)+2, api.ErrWord)
}

func TestP91NoPolicy(t *testing.T) {
	for _, s := range []string{"", "\n", "#", "# label a level 0", "label a level 0", "label a level 0\nquota a chars 1 ops 1 seats 1\n"} {
		refused(t, s, 0, api.ErrPolicy)
	}
}

func TestP92Name(t *testing.T) {
	seen := map[string]bool{}
	for i := range 702 {
		s := Name(i)
		if seen[s] || !isName(s) || (len(s) == 1) != (i < 26) {
			t.Errorf("%d: %q", i, s)
		}
		seen[s] = true
	}
	for i, want := range map[int]string{0: "a", 25: "z", 26: "aa", 27: "ab", 51: "az", 52: "ba", 701: "zz", 702: "", -1: "", math.MinInt: "", math.MaxInt: "", 703: ""} {
		if Name(i) != want {
			t.Errorf("%d: %q", i, Name(i))
		}
	}
}

func TestP92Print(t *testing.T) {
	p := api.Policy{
		Labels:  []api.Label{{Level: 15}, {Comps: 1 << 31}, {Level: 3, Comps: 1<<31 | 1<<30 | 1<<10 | 1}},
		Quotas:  []api.Quota{full, {Chars: 1, Ops: 0, Seats: 4096}, {}},
		Entries: []api.Entry{{Label: 2, Secret: "a b"}, {Label: 0, Secret: "\x00\xffé%", Down: true}, {Label: 2, Secret: "0aA"}},
	}
	const want = "label a level 15\nlabel b level 0 comps 31\nlabel c level 3 comps 0,10,30,31\n" +
		"quota a chars 4096 ops 4096 seats 4096\nquota b chars 1 ops 0 seats 4096\nquota c chars 0 ops 0 seats 0\n" +
		"client c secret a%20b\nclient a secret %00%ff%c3%a9%25 down\nclient c secret 0aA\n"
	if s := printed(t, p); s != want {
		t.Errorf("%s", s)
	}
	if s := printed(t, p, "x", "down"); !strings.HasPrefix(s, "label x level 15\nlabel down level 0 comps 31\nlabel c level 3") || !strings.HasSuffix(s, "client x secret %00%ff%c3%a9%25 down\nclient c secret 0aA\n") {
		t.Errorf("%s", s)
	}
	if s := printed(t, p, "a", "b", "c", "c", "", "C"); s != want {
		t.Errorf("names without a label: %s", s)
	}
}

func TestP92WrongPrint(t *testing.T) {
	p := api.Policy{Labels: []api.Label{{}, {Level: 1}}, Quotas: []api.Quota{full, full}, Entries: []api.Entry{{Secret: "s"}}}
	for _, given := range [][]string{{""}, {"a", ""}, {"b"}, {"a", "a"}, {"x", "x"}, {"A"}, {"a1"}, {"é"}, {"a", "\xff"}, {"a b"}, {"abcdefghijklm"}, {"a", "b\n"}} {
		if s, bad := Print(p, given...); s != "" || bad != api.ErrWord {
			t.Errorf("%q: %q, %d", given, s, bad)
		}
	}
	for _, given := range [][]string{nil, {}, {"a"}, {"c"}, {"b", "a"}, {"abcdefghijkl", "z"}} {
		printed(t, p, given...)
	}
	wrong := []api.Policy{{}, {Labels: p.Labels, Quotas: p.Quotas}, {Labels: p.Labels, Quotas: p.Quotas[:1], Entries: p.Entries}}
	for _, e := range []api.Entry{{Label: 2, Secret: "s"}, {Label: -1, Secret: "s"}, {}, {Secret: "0123456789abcdefg"}} {
		wrong = append(wrong, api.Policy{Labels: p.Labels, Quotas: p.Quotas, Entries: []api.Entry{e}})
	}
	for _, w := range wrong {
		if s, bad := Print(w, "A"); s != "" || bad != api.ErrPolicy {
			t.Errorf("%v: %q, %d", w, s, bad)
		}
	}
}

// anyPolicy is one that may be, with names for some of its labels.
func anyPolicy(r *rand.Rand) (api.Policy, []string) {
	var p api.Policy
	for range 1 + r.Intn(api.MaxLabels) {
		l := api.Label{Level: r.Intn(16)}
		if r.Intn(2) == 0 {
			l.Comps = r.Uint32() & r.Uint32()
		}
		if _, known := lattice.At(p, l); !known {
			p.Labels = append(p.Labels, l)
			p.Quotas = append(p.Quotas, api.Quota{Chars: r.Intn(4097), Ops: r.Intn(12), Seats: 4096 - r.Intn(2)})
		}
	}
	for range 1 + r.Intn(api.MaxClients) {
		b := make([]byte, 1+r.Intn(api.MaxSecret))
		for i := range b {
			b[i] = byte(r.Intn(256))
		}
		p.Entries = append(p.Entries, api.Entry{Label: r.Intn(len(p.Labels)), Secret: string(b), Down: r.Intn(2) == 0})
	}
	var n []string
	for i := range r.Intn(len(p.Labels) + 1) {
		n = append(n, "name"+Name(r.Intn(26)*27+i))
	}
	return p, n
}

func TestP93ThereAndBack(t *testing.T) {
	r := rand.New(rand.NewSource(1))
	for range 2000 {
		p, given := anyPolicy(r)
		s, bad := Print(p, given...)
		if bad == api.ErrWord {
			continue // two names were alike by chance
		}
		q, n := parsed(t, s)
		if !reflect.DeepEqual(q, p) || len(n) != len(p.Labels) || !slices.Equal(n[:len(given)], given) {
			t.Fatalf("%v, %q: %v, %q", p, given, q, n)
		}
		for i := len(given); i < len(n); i++ {
			if n[i] != Name(i) {
				t.Fatal(n)
			}
		}
		if again := printed(t, q, n...); again != s {
			t.Fatalf("%s\n%s", s, again)
		}
	}
}

// All bytes can stand in a secret, each in one form.
func TestP93Secrets(t *testing.T) {
	for c := range 256 {
		s := "x" + string([]byte{byte(c)})
		p := api.Policy{Labels: []api.Label{{}}, Quotas: []api.Quota{full}, Entries: []api.Entry{{Secret: s}}}
		if q, _ := parsed(t, printed(t, p)); q.Entries[0].Secret != s {
			t.Errorf("%q: %q", s, q.Entries[0].Secret)
		}
		plain := 'a' <= c && c <= 'z' || 'A' <= c && c <= 'Z' || '0' <= c && c <= '9'
		form := "%" + string(digits16[c/16]) + string(digits16[c%16])
		if _, _, _, bad := Parse("label a level 0\nclient a secret " + form); (bad == api.OK) == plain {
			t.Errorf("%s: %d", form, bad)
		}
		if _, _, _, bad := Parse("label a level 0\nclient a secret x" + string([]byte{byte(c)})); (bad == api.OK) != (plain || c == '\n') {
			t.Errorf("byte %d: %d", c, bad)
		}
	}
}

func TestP94Settled(t *testing.T) {
	for _, s := range []string{
		"label b level 3\nclient b secret s\nlabel a level 3 comps 1\n",
		"# x\nlabel b level 3\n\nquota b chars 1 ops 1 seats 1\nlabel a level 2 comps 0,31\nclient b secret %20 down\nclient a secret t",
	} {
		p, n := parsed(t, s)
		once := printed(t, p, n...)
		q, m := parsed(t, once)
		if !reflect.DeepEqual(p, q) || !slices.Equal(n, m) || printed(t, q, m...) != once {
			t.Errorf("%s\n%s", s, once)
		}
	}
}

func TestP95Silent(t *testing.T) {
	r := rand.New(rand.NewSource(2))
	for range 300 {
		p, _ := anyPolicy(r)
		lines := strings.SplitAfter(printed(t, p), "\n")
		wrong := -1
		if r.Intn(2) == 0 {
			wrong = r.Intn(len(lines))
			lines[wrong] = "label\n"
		}
		var b strings.Builder
		silent, at := 0, 0
		for i, line := range lines {
			for r.Intn(3) == 0 {
				b.WriteString([]string{"\n", "#\n", "# label a level 0\n", "#\xff\n"}[r.Intn(4)])
				silent++
			}
			if i == wrong {
				at = i + 1 + silent
			}
			b.WriteString(line)
		}
		q, n, line, bad := Parse(b.String())
		if wrong >= 0 {
			if line != at || bad != api.ErrWord {
				t.Fatalf("line %d, %d; want %d", line, bad, at)
			}
			continue
		}
		if bad != api.OK || line != 0 || !reflect.DeepEqual(q, p) || len(n) != len(p.Labels) {
			t.Fatal(q, n, line, bad)
		}
	}
}

// What is handed in stays as it is, its spare room too; what is answered has room of its own.
func TestMemory(t *testing.T) {
	p := api.Policy{Labels: make([]api.Label, 1, 9), Quotas: make([]api.Quota, 1, 9), Entries: append(make([]api.Entry, 0, 9), api.Entry{Secret: "s"})}
	given := append(make([]string, 0, 9), "x")
	printed(t, p, given...)
	if given[:2][1] != "" || p.Labels[:2][1] != (api.Label{}) || p.Entries[:2][1] != (api.Entry{}) || p.Quotas[:2][1] != (api.Quota{}) {
		t.Error("spare room was written")
	}
	const s = "label a level 0\nlabel b level 1\nclient a secret s\n"
	one, n := parsed(t, s)
	one.Labels[0].Level, one.Quotas[0].Ops, one.Entries[0].Secret, n[0] = 9, 9, "x", "x"
	_ = append(append(one.Labels, api.Label{Level: 5}), one.Labels...)
	two, m := parsed(t, s)
	if two.Labels[0].Level != 0 || two.Quotas[0] != full || two.Entries[0].Secret != "s" || m[0] != "a" {
		t.Error(two, m)
	}
}

// No text makes Parse panic; what it takes can be printed, and is the same then.
func TestP94AnyText(t *testing.T) {
	r := rand.New(rand.NewSource(3))
	words := []string{"label", "quota", "client", "level", "comps", "chars", "ops", "seats", "secret", "down", "a", "b", "0", "1", "16", "1,2", "%20", "s", "", "\n", "#", "\xff"}
	for range 20000 {
		var w []string
		for range r.Intn(12) {
			w = append(w, words[r.Intn(len(words))])
		}
		s := "label a level 0\nclient a secret s\n" + strings.Join(w, " ")
		p, n, line, bad := Parse(s)
		if bad == api.OK {
			q, m := parsed(t, printed(t, p, n...))
			if !reflect.DeepEqual(p, q) || !slices.Equal(n, m) {
				t.Fatalf("%q", s)
			}
		} else if bad != api.ErrWord || line < 3 {
			t.Fatalf("%q: %d, %d", s, line, bad)
		}
	}
}

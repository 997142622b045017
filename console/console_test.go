package console

import (
	"strconv"
	"strings"
	"testing"

	"sealskin/api"
	"sealskin/audit"
	"sealskin/core"
)

// one is a policy of one client; two one of a low client, and a high one that may let down.
const (
	one = "label low level 0\nclient low secret s\ngo\n"
	two = "label low level 0\nlabel high level 1\nclient low secret s\nclient high secret t down\ngo\n"
)

func checked(t *testing.T, s string, at int, why api.Errno) {
	t.Helper()
	if n, bad := Check(s); n != at || bad != why {
		t.Errorf("%.80q: %d, %d; want %d, %d", s, n, bad, at, why)
	}
	if why == api.OK {
		return
	}
	if r, n, bad := Run(s); r != "" || n != at || bad != why {
		t.Errorf("%.80q: %.80q, %d, %d; want %d, %d", s, r, n, bad, at, why)
	}
}

// report is that of a text that is one.
func report(t *testing.T, s string) string {
	t.Helper()
	r, at, bad := Run(s)
	if at != 0 || bad != api.OK {
		t.Fatalf("%.200q: %d, %d", s, at, bad)
	}
	return r
}

// answers holds that the last lines of a text answer so.
func answers(t *testing.T, s string, want ...string) {
	t.Helper()
	r := strings.Split(strings.TrimSuffix(report(t, s), "\n"), "\n")
	if len(r) < len(want) {
		t.Fatalf("%q: %q", s, r)
	}
	r = r[len(r)-len(want):]
	for i := range want {
		if r[i] != want[i] {
			t.Errorf("%.300q: line %d of the last ones: %q, want %q", s, i, r[i], want[i])
		}
	}
}

func TestP231Long(t *testing.T) {
	s := one + "#" + strings.Repeat("x", api.MaxScript-len(one)-1)
	checked(t, s, 0, api.OK)
	checked(t, s+"x", 0, api.ErrLong)
	checked(t, "x\n"+s, 0, api.ErrLong)
	checked(t, strings.Repeat("\n", api.MaxScript), api.MaxScript+1, api.ErrLine)
	checked(t, strings.Repeat("\n", api.MaxScript+1), 0, api.ErrLong)
}

func TestP231NoGo(t *testing.T) {
	for s, lines := range map[string]int{
		"": 1, "\n": 2, "x": 1, "go ": 1, " go": 1, "Go": 1, "go\r\n": 2, "#go": 1, "gogo\n": 2, "go\x00": 1, "go go": 1,
		"label low level 0\n": 2, "label low level 0\nclient low secret s": 2, "wrong\nwrong\nwrong\n": 4, "\xff\n\n": 3,
	} {
		checked(t, s, lines, api.ErrLine)
	}
}

func TestP231Policy(t *testing.T) {
	checked(t, "go", 0, api.ErrPolicy)
	checked(t, "go\nfly", 0, api.ErrPolicy)
	checked(t, "\n#\ngo\n", 0, api.ErrPolicy)
	checked(t, "label low level 0\ngo\n", 0, api.ErrPolicy)
	checked(t, "fly\ngo\n", 1, api.ErrWord)
	checked(t, "label low level 0\n\nlabel low level 1\nclient low secret s\ngo\nfly\n", 3, api.ErrWord)
	checked(t, "label low level 0\nclient low secret s\ngo ahead\ngo\n", 3, api.ErrWord)
	checked(t, "client low secret s\nlabel low level 0\ngo\nlogin 0\n", 1, api.ErrWord)
	checked(t, "label low level 0\nclient low secret s\nlogin 0\ngo\n", 3, api.ErrWord)
	checked(t, "#"+strings.Repeat("x", 2*api.MaxLine)+"\n"+one, 0, api.OK)
	checked(t, one, 0, api.OK)
	checked(t, strings.TrimSuffix(one, "\n"), 0, api.OK)
}

// Each of these can't stand behind the parting line.
func TestP231WrongLines(t *testing.T) {
	for _, s := range []string{
		"fly", "go", " ", "  ", "\t", "\r", "x", "ok", "Login 0", "LOGIN 0", "logins 0", "log 0", " login 0", " # x", "\xff", "login\t0", "edit\x000 0 0", "label low level 0", "client low secret s",
		"login", "login ", "login x", "login  0", "login -1", "login +1", "login 00", "login 01", "login 1000000", "login 0x", "login 1.0", "login ١", "login 0\t", "login 0\r", "login /", "login :", "login s", "login \xff",
		"edit", "edit 0", "edit 0 0", "edit 0 0 ", "edit 0 0  0", "edit 0 0 x", "edit 0 0 0x", "edit 0 0 -1 x", "edit 0  0 0 x", "edit 0 01 0 x", "edit x 0 0", "edit 0 0 1000000 x",
		"down 0 0 1", "down 0 0 1 ", "down 0 0 1 0 ", "down 0 0 1 0 0", "down 0 0 1 x", "down 0 0 1 0 x", "down", "cursor 0", "cursor 0 0 0", "cursor 0 0 ", "cursor 0 x",
		"bye", "bye 0 ", "bye 0 0", "undo", "undo 0 0", "undo 0 x", "redo", "redo 0 0", "redo  0", "up 0", "up 0 0 0", "deliver 0", "deliver 0 0 0", "deliver 0 ",
		"lose 0 0", "lose 0 0 0 0", "lose 0 0 0 ", "double 0 0", "double 0 0 0 0", "torn 0 0", "torn 0 0 0 0", "torn 0 0 x",
		"crash ", "crash 0", "crash x", "check ", "check 0", "crashcheck", "tick", "tick ", "tick 101", "tick 999999", "tick 1000000", "tick 1 1", "tick -1", "tick 01", "tick 1 ", "tick x", "ticks 1", "carry", "carry 101", "carry 100000", "carry 1 1", "carry 1 ", "carry 00",
		"show", "show 0 0", "show 0 ", "told", "told 0 0", "peers", "peers 0 0", "way", "way 0 0", "server", "server 0 0", "server ", "line 0 0", "line 0 0 0 0", "line 0 0 0 ", "line 0", "find", "find x", "find ", "grep", "grep x", "grep ", "grep -1 x",
		"label", "label low", "label 0 0", "label 0 ", "audits ", "audits 0", "purged 0", "purged 0 0 0", "purged", "purged 0 1000000", "purged 0 0 ",
		"login 0 " + strings.Repeat("x", api.MaxLine-7), "edit 0 0 0 " + strings.Repeat("\xff", api.MaxLine-10), strings.Repeat("x", api.MaxLine+1), " " + strings.Repeat("#", api.MaxLine),
	} {
		checked(t, one+s, 4, api.ErrLine)
		checked(t, "# x\n"+one+"login 0\n\n#fly\n"+s+"\nfly\nfly", 8, api.ErrLine)
	}
}

// What is just right stands beside what is just wrong.
func TestP231RightLines(t *testing.T) {
	all := one
	for _, s := range []string{
		"", "#", "# fly", "#\xff", "#" + strings.Repeat("x", 2*api.MaxLine),
		"login 0", "login 0 ", "login 0 s", "login 0  ", "login 0 \xff", "login 0 0 0", "login 9", "login 999999", "edit 0 0 0", "edit 0 0 0 ", "edit 0 0 0 x", "edit 0 0 0  x ", "edit 0 999999 100000 0 1", "edit 0 0 0 #", "edit 10 0 0 \r",
		"down 0 0 1 0", "cursor 0 0", "bye 0", "undo 0", "redo 0", "up 0 0", "deliver 0 0", "lose 0 0 0", "lose 0 2 64", "double 0 1 0", "torn 0 0 0", "torn 0 0 999999", "crash", "check",
		"tick 0", "tick 1", "tick 99", "tick 100", "carry 0", "carry 100", "show 0", "show 8", "told 0", "peers 0", "way 0", "server 0", "line 0 0 0", "line 0 999999 999999",
		"find 0", "find 0 ", "find 0 x y", "grep 0", "grep 0 ", "grep 0 (a|b)", "grep 0 (", "label 0", "label 32", "audits", "purged 0 0", "purged 999999 999999",
		"login 0 " + strings.Repeat("x", api.MaxLine-8), "edit 0 0 0 " + strings.Repeat("\xff", api.MaxLine-11),
	} {
		checked(t, one+s, 0, api.OK)
		checked(t, one+s+"\n", 0, api.OK)
		all += s + "\n"
	}
	checked(t, all, 0, api.OK)
	checked(t, all+"fly", strings.Count(all, "\n")+1, api.ErrLine)
}

func TestP232Example(t *testing.T) {
	const want = "ok\nok\nok\nok\nshow 2 1 1 2 \"ab\"\nlabel low 1 2 1 \"ab\"\n"
	if r := report(t, one+"login 0\ncarry 3\nedit 0 0 0 ab\ncarry 3\nshow 0\nlabel 0"); r != want {
		t.Errorf("%q", r)
	}
}

func TestP232Nothing(t *testing.T) {
	for _, s := range []string{one, strings.TrimSuffix(one, "\n"), one + "\n\n#\n# login 0"} {
		if r := report(t, s); r != "" {
			t.Errorf("%q: %q", s, r)
		}
	}
	answers(t, one+"show 0\ntold 0\npeers 0\nway 0\nserver 0\nline 0 0 0\nfind 0 x\ngrep 0 x\ngrep 0\nlabel 0\npurged 0 0",
		`show 0 0 0 0 ""`, "told", "peers", "way 0 0", "server 0 0 0 0", `line 0 ""`, "find", "grep", "grep; 0 0", `label low 0 0 0 ""`, "purged 0 0")
}

// A number that no client, or no label, has.
func TestP232Nobody(t *testing.T) {
	for _, s := range []string{"show 2", "told 2", "peers 2", "way 2", "server 2", "line 2 0 0", "line 2 9 0", "find 2 x", "find 2", "find 2 \xff", "grep 2 x", "grep 2 (", "show 8", "server 999999"} {
		answers(t, two+s, "error 1")
	}
	for _, s := range []string{"login 2", "edit 2 0 0 x", "down 2 0 1 0", "cursor 2 0", "bye 2", "undo 2", "redo 2", "up 2 0", "deliver 2 0", "lose 2 0 0", "double 2 0 0", "torn 2 0 0", "up 0 0", "deliver 0 0", "lose 0 0 0", "lose 0 2 0", "double 0 1 0", "double 0 2 0"} {
		answers(t, two+s, "error 200")
	}
	answers(t, two+"label 2\nlabel 32\nlabel 999999\nlabel 1", "error 10", "error 10", "error 10", `label high 0 0 0 ""`)
}

// Why an event came to nothing is told by its number.
func TestP232Errors(t *testing.T) {
	answers(t, one+"bye 0\nundo 0\nredo 0\ncursor 0 1\ndown 0 0 1 0\nedit 0 1 0 x\nedit 0 0 1\nedit 0 0 0 \xff\nlogin 0\ncrash\ncheck\ntorn 0 0 0\nup 0 0",
		"error 172", "error 160", "error 160", "error 1", "error 172", "error 30", "error 30", "error 30", "ok", "ok", "ok", "ok", "error 200")
	answers(t, one+"edit 0 0 0 "+strings.Repeat("x", 257), "error 4")
	answers(t, one+"login 0\n"+strings.Repeat("double 0 0 0\n", 64), "ok", "error 7")
	answers(t, one+"login 0 wrong\nup 0 0\nlogin 0\nup 0 0", "ok", "error 121", "ok", "ok")
}

// Three wrong secrets lock a client; its own one is taken, if there is no other one.
func TestP232Login(t *testing.T) {
	s := one + strings.Repeat("login 0 wrong\nup 0 0\n", 3) + "server 0\n"
	answers(t, s, "server 0 0 0 20")
	answers(t, s+"tick 5\nserver 0", "server 0 0 0 15")
	answers(t, s+"tick 5\nlogin 0 s\nup 0 0\ntick 15\nup 0 0\nserver 0", "error 170", "ok", "ok", "server 4 1 0 0")
	answers(t, one+"login 0\nup 0 0\nserver 0", "server 1 1 0 0")
	answers(t, one+"login 0 \nup 0 0\nserver 0", "server 1 1 0 0")
	answers(t, one+"login 0  s\nup 0 0\nserver 0", "error 121", "server 0 0 0 0")
}

// in is a world in which both are in, and know one another's text.
const in = two + "login 0\nlogin 1\ncarry 6\nedit 0 0 0 one two\ncarry 6\nedit 1 3 0  BIG\ncarry 6\n"

func TestP232Client(t *testing.T) {
	answers(t, in+"show 0\nshow 1\ntold 0\ntold 1\nway 0\nway 1\nserver 0\nserver 1",
		`show 2 1 1 7 "one two"`, `show 2 1 2 0 "one BIG two"`, "told; 1 0", "told; 1 0", "way 0 0", "way 0 0", "server 1 1 1 0", "server 1 1 2 0")
	answers(t, in+"cursor 0 4\nway 0\ncarry 2\npeers 0\npeers 1\ncursor 1 9\ncarry 3\npeers 0\npeers 1", "way 1 0", "ok", "peers", "peers; 0 8", "ok", "ok", "peers", "peers; 0 8")
	answers(t, in+"down 1 0 1 0\ncarry 4\nedit 1 0 0 x\nedit 1 0 0 y\ncarry 4\ntold 1", "ok", "ok", "ok", "ok", "ok", "told; 1 0; 2 154; 2 0; 3 0")
	answers(t, in+"bye 0\nshow 0\ncarry 2\nserver 0\nlogin 0\nshow 0", "ok", `show 0 1 1 7 "one two"`, "ok", "server 1 0 1 0", "ok", `show 1 2 1 7 "one two"`)
	answers(t, in+"undo 1\nshow 1\nredo 1\nshow 1", "ok", `show 2 1 2 0 "one two"`, "ok", `show 2 1 2 0 "one BIG two"`)
	answers(t, in+"tick 24\nshow 0\ntold 0\nserver 0", `show 0 1 1 7 "one two"`, "told; 1 0; 0 172", "server 1 0 0 0")
	answers(t, in+"crash\nserver 0\nserver 1\nlabel 1", "ok", "server 1 0 0 0", "server 1 0 0 0", `label high 2 4 1 "one BIG two"`)
}

func TestP232Line(t *testing.T) {
	answers(t, in+"line 1 0 0\nline 1 0 3\nline 1 0 5\nline 1 0 10\nline 1 0 11\nline 1 0 999999\nline 1 1 0\nline 0 0 5",
		`line 0 0 3 "one BIG two"`, `line 3 3 4 "one BIG two"`, `line 5 4 7 "one BIG two"`, `line 10 8 11 "one BIG two"`, `line 11 "one BIG two"`, `line 11 "one BIG two"`, "error 1", `line 5 4 7 "one two"`)
}

func TestP232Find(t *testing.T) {
	answers(t, in+"find 1 o\nfind 1  \nfind 1 BIG two\nfind 1 none\nfind 1\nfind 1 \nfind 1 \xff\nfind 0 BIG\nfind 0 e t",
		"find 0 10", "find 3 7", "find 4", "find", "error 1", "error 1", "error 21", "find", "find 2")
	answers(t, in+"grep 1 [a-z]+\ngrep 1 (o)(n|x)\ngrep 1  \ngrep 1 none\ngrep 1 (\ngrep 1 \xff\ngrep 0 \\w+$\ngrep 0 x*\ngrep 0 "+strings.Repeat("x", 201)+"\ngrep 0 "+strings.Repeat("(", 21),
		"grep; 0 3; 8 11", "grep; 0 2", "grep; 3 4; 7 8", "grep", "error 90", "error 21", "grep; 4 7", "grep; 0 0; 1 1; 2 2; 3 3; 4 4; 5 5; 6 6; 7 7", "error 4", "error 4")
}

// A view may be too long for a pattern, not for a text that is looked for.
func TestP232LongView(t *testing.T) {
	s := strings.Replace(in, "\ngo\n", "\nclient high secret u\ngo\n", 1)
	s += strings.Repeat("edit 0 0 0 "+strings.Repeat("l", 256)+"\ncarry 9\n", 15)
	s += strings.Repeat("edit 1 0 0 "+strings.Repeat("h", 256)+"\ncarry 9\n", 2)
	answers(t, s+"grep 0 w\ngrep 1 w\nfind 1 w\nlabel 0", "grep; 3845 3846", "error 4", "find 4361", `label low 16 3847 16 "`+strings.Repeat("l", 15*256)+`one two"`)
}

// rootNumber is what is told of the root of a log of what was let down.
func rootNumber(l []api.Audit) string {
	g := audit.New()
	for _, a := range l {
		g.Add(core.Entry(a))
	}
	sum, _ := g.Root(len(l))
	return strconv.Itoa(256*int(sum[0]) + int(sum[1]))
}

func TestP232Label(t *testing.T) {
	answers(t, in+"label 0\nlabel 1\nedit 0 0 0 x\ncarry 4\nundo 0\ncarry 4\nlabel 0\nlabel 1", "ok", "ok", "ok", "ok", `label low 3 7 3 "one two"`, `label high 4 4 1 "one BIG two"`)
}

func TestP232Audits(t *testing.T) {
	answers(t, in+"audits", "audits; "+rootNumber(nil))
	answers(t, in+"audits", "audits; 26913") // 69 21 are the first bytes of the digest of no bytes
	answers(t, in+"down 1 3 2 0\ncarry 6\ndown 1 5 2 0\ncarry 6\nlabel 0\nlabel 1\npurged 0 0", `label low 3 11 1 "one BIG two"`, `label high 4 0 3 "one BIG two"`, "error 4")
	a := []api.Audit{{Who: 1, Target: 0, At: 3, Commit: 3, Text: " B"}, {Who: 1, Target: 0, At: 5, Commit: 4, Text: "IG"}}
	s := in + "down 1 3 2 0\ncarry 6\naudits\ndown 1 5 2 0\ncarry 6\naudits\n"
	answers(t, s, `audits; 1 0 3 3 " B"; `+rootNumber(a[:1]), "ok", "ok", `audits; 1 0 3 3 " B"; 1 0 5 4 "IG"; `+rootNumber(a))
}

// A text stays within its line, whatever it has; nothing else is another one.
func TestP232Texts(t *testing.T) {
	if s := string(tell("x").text("a\nb\n\n\"\\\u2424\t;")); s != "x \"a\u2424b\u2424\u2424\"\\\u2424\t;\"" {
		t.Errorf("%q", s)
	}
	answers(t, one+"edit 0 0 0 \"a\" \\n\t; é𝄞\nshow 0\nfind 0 \"", "ok", "show 0 0 0 11 \"\"a\" \\n\t; é𝄞\"", "find 0 2")
	answers(t, one+"edit 0 0 0  x \nshow 0\nedit 0 1 1\nshow 0", "ok", `show 0 0 0 3 " x "`, "ok", `show 0 0 0 2 "  "`)
}

// carry lets come what was on its way, not what the server says to it.
func TestP232Carry(t *testing.T) {
	answers(t, one+"login 0\nway 0\ncarry 0\nway 0\ncarry 1\nway 0\nshow 0\ncarry 1\nway 0\nshow 0", "ok", "way 1 0", "ok", "way 1 0", "ok", "way 0 1", `show 1 1 0 0 ""`, "ok", "way 1 0", `show 2 1 0 0 ""`)
	// The second client's text comes to the first one a time later, that of the first one to the second one at once.
	s := "label low level 0\nclient low secret s\nclient low secret s\ngo\nlogin 0\nlogin 1\ncarry 9\n"
	answers(t, s+"edit 0 0 0 a\ncarry 1\nshow 1", "ok", "ok", `show 2 1 1 0 "a"`)
	answers(t, s+"edit 1 0 0 a\ncarry 1\nshow 0\ncarry 1\nshow 0", "ok", "ok", `show 2 1 0 0 ""`, "ok", `show 2 1 1 0 "a"`)
	// Both frames are the first ones of their sides.
	answers(t, one+"login 0\nup 0 0\ndouble 0 1 0\ndouble 0 1 0\nway 0\ncarry 1\nway 0", "way 0 3", "ok", "way 1 2")
}

func TestP232Purged(t *testing.T) {
	answers(t, two+"login 0\nlogin 1\ntick 3\npurged 0 4\npurged 0 5\npurged 1 5\npurged 2 5\npurged 999999 999999", "error 4", "purged 4 4", "purged 5 5", "purged 3 3", "purged 3 3")
	// Also what can't be, and what is a client's that there is not, was done.
	answers(t, two+"up 0 0\nup 1 0\nup 7 0\npurged 0 2\npurged 0 3\npurged 1 3", "error 4", "purged 1 1", "purged 2 2")
	answers(t, two+"login 1\ntorn 1 0 5\ncrash\ncheck\npurged 0 4\nshow 0\npurged 0 4", "purged 3 3", `show 0 0 0 0 ""`, "purged 3 3")
	// What is let down shows from where it comes on, and not ahead of that.
	s := in + "purged 0 200\ndown 1 3 1 0\ntick 1\n"
	answers(t, s+"purged 0 200\nup 1 0\ntick 2\npurged 0 200\ndeliver 0 0\npurged 0 200\ntick 9\npurged 0 200\npurged 1 3", "purged 10 10", "ok", "ok", "purged 12 12", "ok", "purged 13 12", "ok", "purged 22 12", "error 4")
}

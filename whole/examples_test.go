package whole

import (
	"strings"
	"testing"

	"sealskin/api"
	"sealskin/console"
)

// Two low clients are in; a low one, and a high one that may let down, are in, and the low one's text is ac, the high one's aBc.
const (
	lows = "label low level 0\nclient low secret s\nclient low secret t\ngo\nlogin 0\nlogin 1\ncarry 6\n"
	both = "label low level 0\nlabel high level 1\nclient low secret s\nclient high secret t down\ngo\nlogin 0\nlogin 1\ncarry 6\nedit 0 0 0 ac\ncarry 6\nedit 1 1 0 B\ncarry 6\n"
)

// ends holds that a text's report ends so.
func ends(t *testing.T, s string, want ...string) {
	t.Helper()
	r, at, bad := console.Run(s)
	if bad != api.OK || !strings.HasSuffix("\n"+r, "\n"+strings.Join(want, "\n")+"\n") {
		t.Errorf("%s: %d, %d\n%s", s, at, bad, r)
	}
}

// The document's ten examples of the whole, as texts.
func TestP3OnePlace(t *testing.T) {
	ends(t, lows+"edit 0 0 0 a\nedit 1 0 0 b\ncarry 8\nshow 0\nshow 1\nlabel 0", `show 2 1 2 2 "ba"`, `show 2 1 2 1 "ba"`, `label low 2 2 2 "ba"`)
}

func TestP1Between(t *testing.T) {
	ends(t, both+"show 0\nshow 1\ntold 0\npeers 0\nserver 0", `show 2 1 1 2 "ac"`, `show 2 1 2 0 "aBc"`, "told; 1 0", "peers", "server 1 1 1 0")
	ends(t, both+"edit 1 0 0 xyz\ncarry 6\ncursor 1 5\ncarry 6\nlogin 1 wrong\ncarry 2\ntorn 1 0 9\nlogin 0\ncarry 6\nedit 0 1 0 -\ncarry 6\nshow 0\npurged 0 999", `show 2 2 2 3 "a-c"`, "purged 19 19")
}

func TestP3Around(t *testing.T) {
	ends(t, both+"edit 0 0 2\ncarry 6\nedit 0 0 0 new\ncarry 6\nshow 0\nshow 1", `show 2 1 3 3 "new"`, `show 2 1 4 0 "newB"`)
}

func TestP5LetDown(t *testing.T) {
	ends(t, both+"down 1 1 1 0\ncarry 6\nshow 0\ntold 1\nlabel 0", `show 2 1 2 3 "aBc"`, "told; 1 0; 2 0", `label low 2 3 1 "aBc"`)
	r, _, _ := console.Run(both + "down 1 1 1 0\ncarry 6\naudits")
	if !strings.Contains(r, "\naudits; 1 0 1 3 \"B\"; ") {
		t.Error(r)
	}
}

func TestP5Up(t *testing.T) {
	ends(t, both+"down 0 0 1 1\ncarry 6\ntold 0\nlabel 0\nlabel 1", "told; 1 0; 2 153", `label low 1 2 1 "ac"`, `label high 2 1 1 "aBc"`)
}

// The power goes in the midst of a record, or just behind it: in both cases it is done once.
func TestP2Midst(t *testing.T) {
	for _, bytes := range []string{"1", "9", "999999"} {
		ends(t, both+"edit 0 2 0 d\ntorn 0 0 "+bytes+"\nlogin 0\ncarry 8\nshow 0\ntold 0\nlabel 0", `show 2 2 2 3 "acd"`, "told; 1 0; 2 0", `label low 2 3 2 "acd"`)
	}
	ends(t, both+"edit 0 2 0 d\ntorn 0 0 9\nlabel 0\nserver 0", `label low 1 2 1 "ac"`, "server 1 0 0 0")
	ends(t, both+"edit 0 2 0 d\ntorn 0 0 999999\nlabel 0\nserver 0", `label low 2 3 2 "acd"`, "server 1 0 0 0")
}

func TestP4Ways(t *testing.T) {
	ends(t, lows+"edit 0 0 0 a\nlose 0 0 0\nedit 1 0 0 b\ndouble 1 0 0\nup 1 0\ncursor 1 0\ntick 2\nup 1 1\ncarry 9\ntick 4\ncarry 9\ntick 4\ncarry 9\nshow 0\nshow 1\nlabel 0\nway 0\nway 1",
		`show 2 1 2 1 "ab"`, `show 2 1 2 0 "ab"`, `label low 2 2 2 "ab"`, "way 0 0", "way 0 0")
}

func TestP4Off(t *testing.T) {
	ends(t, lows+"edit 0 0 0 one\ncarry 6\nbye 1\ncarry 6\nedit 1 3 0  two\nshow 1\nedit 0 0 0 zero \ncarry 6\nshow 0\nlogin 1\ncarry 9\nshow 0\nshow 1",
		`show 0 1 1 0 "one two"`, "ok", "ok", `show 2 1 2 8 "zero one"`, "ok", "ok", `show 2 1 3 8 "zero one two"`, `show 2 2 3 0 "zero one two"`)
}

func TestP4Locked(t *testing.T) {
	s := lows[:strings.Index(lows, "login")] + strings.Repeat("login 0 wrong\nup 0 0\n", 3) + "login 0\nup 0 0\nserver 0\n"
	ends(t, s, "error 121", "ok", "error 170", "server 0 0 0 20")
	ends(t, s+"tick 19\nlogin 0\nup 0 0\nserver 0", "error 170", "server 0 0 0 1")
	ends(t, s+"tick 20\nlogin 0\ncarry 60\nshow 0\nserver 0", `show 2 5 0 0 ""`, "server 5 1 0 0")
}

func TestP3Quota(t *testing.T) {
	s := strings.Replace(lows, "\nclient", "\nquota low chars 3 ops 9 seats 2\nclient", 1)
	ends(t, s+"edit 0 0 0 abc\ncarry 6\nedit 0 3 0 d\nshow 0\ncarry 6\ntold 0\nshow 0\nlabel 0", `show 2 1 1 4 "abcd"`, "ok", "told; 1 0; 2 152", `show 2 1 1 3 "abc"`, `label low 1 3 1 "abc"`)
}

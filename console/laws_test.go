package console

import (
	"math/rand"
	"strings"
	"testing"

	"sealskin/api"
)

// The report of a text's first lines is a beginning of its report, wherever it is cut behind the parting line.
func TestP233Beginnings(t *testing.T) {
	for seed := range int64(12) {
		m := written(t, seed, 60)
		whole := report(t, m.text())
		first := len(m.lines) - len(m.report)
		for n := first; n <= len(m.lines); n++ {
			want := strings.Join(m.report[:n-first], "\n")
			if n > first {
				want += "\n"
			}
			r := report(t, strings.Join(m.lines[:n], "\n"))
			if !strings.HasPrefix(whole, r) || r != want {
				t.Fatalf("%d: %d lines: %q", seed, n, r)
			}
		}
	}
}

func TestP234Silent(t *testing.T) {
	silent := []string{"", "#", "# login 0", "#\xff", "#go", "#" + strings.Repeat("x", 600)}
	for seed := range int64(60) {
		m := written(t, seed, 60)
		want := report(t, m.text())
		r := rand.New(rand.NewSource(seed))
		var l []string
		for _, s := range m.lines {
			for r.Intn(8) == 0 {
				l = append(l, silent[r.Intn(len(silent))])
			}
			l = append(l, s)
		}
		if got := report(t, strings.Join(l, "\n")); got != want {
			t.Fatalf("%d: another report", seed)
		}
	}
}

// A blank ahead of a #, or something behind it, is no line that says nothing.
func TestP234NotSilent(t *testing.T) {
	checked(t, one+" #", 4, api.ErrLine)
	checked(t, one+" ", 4, api.ErrLine)
	answers(t, one+"edit 0 0 0 #\nfind 0 #", "ok", "find 0")
}

func TestP235Again(t *testing.T) {
	for seed := range int64(60) {
		s := written(t, seed, 100).text()
		one := report(t, s)
		if report(t, s) != one {
			t.Fatalf("%d: another report", seed)
		}
	}
}

// A number of times is as many of 1: what is shown behind that is the same.
func TestP236Many(t *testing.T) {
	for seed := range int64(40) {
		m := written(t, seed, 80)
		r := rand.New(rand.NewSource(seed))
		first := len(m.lines) - len(m.report)
		lines, want := append([]string{}, m.lines[:first]...), []string{}
		for i, s := range m.lines[first:] {
			word, times := repeated(s)
			if word == "" || r.Intn(2) == 0 {
				lines, want = append(lines, s), append(want, m.report[i])
				continue
			}
			for range times {
				lines, want = append(lines, word+" 1"), append(want, "ok")
			}
		}
		if got := report(t, strings.Join(lines, "\n")); got != strings.Join(want, "\n")+"\n" {
			t.Fatalf("%d: another report", seed)
		}
	}
}

// repeated is the word and the number of a line of tick or carry; none of others.
func repeated(s string) (string, int) {
	word, n, _ := strings.Cut(s, " ")
	if word != "tick" && word != "carry" {
		return "", 0
	}
	times, _ := readNumber(n)
	return word, times
}

func TestP236Most(t *testing.T) {
	for _, word := range []string{"tick", "carry"} {
		s := in + "edit 0 0 0 x\nedit 1 0 0 y\n"
		const tail = "show 0\nshow 1\nway 0\nway 1\nserver 0\nserver 1\npurged 0 999999\npurged 1 999999\n"
		a := report(t, s+word+" 100\n"+tail)
		b := report(t, s+strings.Repeat(word+" 1\n", 100)+tail)
		c := report(t, s+word+" 0\n"+word+" 37\n"+word+" 63\n"+tail)
		lastOf := func(r string) string {
			l := strings.Split(r, "\n")
			return strings.Join(l[len(l)-strings.Count(tail, "\n")-1:], "\n")
		}
		if lastOf(a) != lastOf(b) || lastOf(a) != lastOf(c) || strings.Contains(lastOf(a), "ok") {
			t.Errorf("%s: %q, %q, %q", word, lastOf(a), lastOf(b), lastOf(c))
		}
	}
}

// No text makes Check or Run panic, and both say the same of it.
func TestAnyText(t *testing.T) {
	r := rand.New(rand.NewSource(1))
	words := strings.Fields("login edit down cursor bye undo redo up deliver lose double torn crash check tick carry show told peers way server line find grep label audits purged go # 0 0 0 1 1 2 7 100 999999 x")
	words = append(words, "", "\xff", "\n", "é")
	good := 0
	for range 20000 {
		var b strings.Builder
		b.WriteString(two)
		for range r.Intn(6) {
			for i := range 1 + r.Intn(5) {
				if i > 0 {
					b.WriteByte(' ')
				}
				b.WriteString(words[r.Intn(len(words))])
			}
			b.WriteByte('\n')
		}
		s := b.String()
		at, bad := Check(s)
		text, n, why := Run(s)
		if n != at || why != bad || bad != api.OK && text != "" {
			t.Fatalf("%q: %d, %d; %q, %d, %d", s, at, bad, text, n, why)
		}
		if bad == api.OK {
			good++
		} else if bad != api.ErrLine || at < 6 {
			t.Fatalf("%q: %d, %d", s, at, bad)
		}
	}
	if good == 0 {
		t.Error("no text was one")
	}
}

// Many lines that ask for what all others did take no more time than the others themselves.
func TestManyPurged(t *testing.T) {
	s := in + strings.Repeat("tick 100\ncarry 5\n", 200)
	s += strings.Repeat("purged 0 999999\npurged 1 999999\npurged 9 999999\n", (api.MaxScript-len(s))/48)
	l := strings.Split(report(t, s), "\n")
	if n := len(l); l[n-2] != "purged 20000 20000" || l[n-3] == l[n-4] {
		t.Error(l[n-4:])
	}
}

package undo

import (
	"math"
	"math/rand"
	"reflect"
	"slices"
	"strings"
	"testing"
	"unicode/utf8"

	"sealskin/api"
	"sealskin/edit"
)

type parts = []api.Part

func keep(n int) api.Part { return api.Part{Kind: api.Keep, N: n} }

func drop(n int) api.Part { return api.Part{Kind: api.Drop, N: n} }

func put(s string) api.Part {
	return api.Part{Kind: api.Put, N: utf8.RuneCountInString(s), Text: s}
}

func fresh(t *testing.T, n int) *History {
	t.Helper()
	h, bad := New(n)
	if h == nil || bad != api.OK {
		t.Fatal(h, bad)
	}
	return h
}

func replace(t *testing.T, s string, at, k int, text string) parts {
	t.Helper()
	e, bad := edit.Replace(utf8.RuneCountInString(s), at, k, text)
	if bad != api.OK {
		t.Fatal(bad)
	}
	return e
}

func applied(t *testing.T, e parts, s string) string {
	t.Helper()
	to, bad := edit.Apply(e, s)
	if bad != api.OK {
		t.Fatalf("%v of %q: %d", e, s, bad)
	}
	return to
}

// desk is a history beside the text that it is of.
type desk struct {
	*testing.T
	h    *History
	text string
}

func at(t *testing.T, s string) *desk {
	return &desk{t, fresh(t, utf8.RuneCountInString(s)), s}
}

func (d *desk) did(e parts, bad api.Errno) {
	d.Helper()
	if bad != api.OK {
		d.Fatal(bad)
	}
	d.text = applied(d.T, e, d.text)
	if n := utf8.RuneCountInString(d.text); d.h.Size() != n {
		d.Fatalf("Size: %d of %d", d.h.Size(), n)
	}
}

func (d *desk) mine(e parts) { d.Helper(); d.did(e, d.h.Mine(e, d.text)) }

func (d *desk) theirs(e parts) { d.Helper(); d.did(e, d.h.Theirs(e)) }

func (d *desk) undo() { d.Helper(); d.did(d.h.Undo(d.text)) }

func (d *desk) redo() { d.Helper(); d.did(d.h.Redo(d.text)) }

func (d *desk) shows(text string, back, again int) {
	d.Helper()
	if b, a := d.h.Len(); d.text != text || b != back || a != again {
		d.Errorf("%q, %d, %d; want %q, %d, %d", d.text, b, a, text, back, again)
	}
}

// state is all of a history, to be held against what it was.
func state(h *History) History {
	return History{h.made, h.size, slices.Clone(h.back), slices.Clone(h.again)}
}

func TestP171New(t *testing.T) {
	for _, n := range []int{0, 1, api.MaxSpan} {
		h := fresh(t, n)
		if back, again := h.Len(); h.Size() != n || back != 0 || again != 0 {
			t.Error(h.Size(), back, again)
		}
	}
	for _, n := range []int{-1, api.MaxSpan + 1, math.MinInt, math.MaxInt} {
		if h, bad := New(n); h != nil || bad != api.ErrArg {
			t.Errorf("New(%d): %v, %d", n, h, bad)
		}
	}
}

func TestP171Clear(t *testing.T) {
	d := at(t, "ab")
	d.mine(replace(t, "ab", 1, 0, "x"))
	d.mine(replace(t, "axb", 1, 0, "y"))
	d.undo()
	was := state(d.h)
	for _, n := range []int{-1, api.MaxSpan + 1, math.MinInt, math.MaxInt} {
		if bad := d.h.Clear(n); bad != api.ErrArg || !reflect.DeepEqual(state(d.h), was) {
			t.Errorf("Clear(%d): %d", n, bad)
		}
	}
	for _, n := range []int{0, 7, api.MaxSpan} {
		if bad := d.h.Clear(n); bad != api.OK {
			t.Fatal(bad)
		}
		if back, again := d.h.Len(); d.h.Size() != n || back != 0 || again != 0 {
			t.Error(d.h.Size(), back, again)
		}
	}
	if _, bad := d.h.Undo(""); bad != api.ErrNone {
		t.Error(bad)
	}
	if _, bad := d.h.Redo(""); bad != api.ErrNone {
		t.Error(bad)
	}
}

func TestP172Mine(t *testing.T) {
	d := at(t, "hé𝄞lo")
	d.mine(replace(t, d.text, 1, 2, "xyz"))
	d.shows("hxyzlo", 1, 0)
	d.mine(parts{keep(6)}) // what changes nothing is an edit, too
	d.shows("hxyzlo", 2, 0)
	d.undo()
	d.undo()
	d.shows("hé𝄞lo", 0, 2)
	d.redo()
	d.shows("hxyzlo", 1, 1)
	d.mine(replace(t, d.text, 0, 6, ""))
	d.shows("", 2, 0) // and again is empty
	if _, bad := d.h.Redo(""); bad != api.ErrNone {
		t.Error(bad)
	}
	d.undo()
	d.undo()
	d.shows("hé𝄞lo", 0, 2)
}

// wrong is edits that are none, or none of three code points.
func wrong() []parts {
	return []parts{nil, {keep(2)}, {keep(4)}, {keep(1), keep(2)}, {drop(1), put("x"), keep(2)}, {keep(3), {Kind: api.Put, N: 2, Text: "x"}}, {keep(3), {Kind: api.Put, N: 1, Text: "\xff"}}, {keep(3), {}}, {keep(3), keep(0)}, {drop(-3)}, {{Kind: 9, N: 3}}, {keep(api.MaxIndex)}}
}

func TestP172Refused(t *testing.T) {
	d := at(t, "ab")
	d.mine(replace(t, d.text, 1, 0, "x"))
	d.mine(replace(t, d.text, 1, 0, "y"))
	d.undo()
	was := state(d.h)
	refused := func(what any, bad api.Errno) {
		t.Helper()
		if bad != api.ErrEdit || !reflect.DeepEqual(state(d.h), was) {
			t.Errorf("%v: %d", what, bad)
		}
	}
	for _, e := range wrong() {
		refused(e, d.h.Mine(e, d.text))
		refused(e, d.h.Theirs(e))
	}
	for _, s := range []string{"", "ax", "axby", "ax\xff", "é", "\xed\xa0\x80"} {
		refused(s, d.h.Mine(parts{keep(3)}, s))
	}
	if d.h.Mine(parts{keep(3), put("é")}, d.text) != api.OK {
		t.Error("what is right is refused")
	}
}

func TestP172Long(t *testing.T) {
	h := fresh(t, 3)
	long := strings.Repeat("é", api.MaxSpan-3)
	for _, e := range []parts{{keep(3), put(long + "x")}, {put(long), keep(1), put("x"), keep(2)}, {keep(1), put(long + "xyz"), drop(1), keep(1)}} {
		if h.Mine(e, "abc") != api.ErrEdit || h.Theirs(e) != api.ErrEdit || h.Size() != 3 {
			t.Error("too long a text is taken")
		}
	}
	if bad := h.Mine(parts{keep(3), put(long)}, "abc"); bad != api.OK || h.Size() != api.MaxSpan {
		t.Error(bad, h.Size())
	}
	if bad := h.Theirs(parts{drop(3), keep(api.MaxSpan - 3)}); bad != api.OK || h.Size() != api.MaxSpan-3 {
		t.Error(bad, h.Size())
	}
	if e, bad := h.Undo(long); bad != api.OK || !slices.Equal(e, parts{drop(api.MaxSpan - 3)}) || h.Size() != 0 {
		t.Error(bad, h.Size())
	}
}

// To undo may make a text longer than an edit that is done may: nothing refuses it.
func TestP173Longer(t *testing.T) {
	all := strings.Repeat("a", api.MaxSpan)
	d := at(t, all)
	d.mine(parts{drop(api.MaxSpan)})
	d.theirs(parts{put(all)})
	d.undo()
	if d.h.Size() != 2*api.MaxSpan {
		t.Error(d.h.Size())
	}
	if d.h.Theirs(parts{keep(2 * api.MaxSpan)}) != api.ErrEdit || d.h.Mine(parts{keep(2 * api.MaxSpan)}, d.text) != api.ErrEdit {
		t.Error("an edit that makes so long a text is taken")
	}
	d.redo()
	d.shows(all, 1, 0)
}

func TestP172Theirs(t *testing.T) {
	d := at(t, "12345")
	d.mine(replace(t, d.text, 1, 3, ""))   // 15
	d.mine(replace(t, d.text, 1, 0, "xy")) // 1xy5
	d.mine(replace(t, d.text, 4, 0, "z"))  // 1xy5z
	d.undo()
	d.shows("1xy5", 2, 1)
	d.theirs(parts{put("A"), keep(1), drop(1), keep(1), put("B"), keep(1), put("C")})
	d.shows("A1yB5C", 2, 1)
	d.redo()
	d.shows("A1yB5zC", 3, 0) // one's own ahead of theirs, at the same place
	d.undo()
	d.undo()
	d.shows("A1B5C", 1, 2)
	d.undo()
	d.shows("A1234B5C", 0, 3)
	d.redo()
	d.redo()
	d.redo()
	d.shows("A1yB5zC", 3, 0)
}

func TestP172TheirsLong(t *testing.T) {
	good, spoilt := parts{keep(2), put("x")}, parts{keep(7)}
	for _, h := range []*History{
		{made: true, size: 2, back: pile{good, spoilt}, again: pile{good}},
		{made: true, size: 2, back: pile{spoilt, good}, again: pile{good}},
		{made: true, size: 2, back: pile{good}, again: pile{spoilt, good}},
	} {
		was := state(h)
		if bad := h.Theirs(parts{put("a"), keep(2)}); bad != api.ErrLong || !reflect.DeepEqual(state(h), was) {
			t.Error(bad)
		}
	}
}

func TestP173Refused(t *testing.T) {
	d := at(t, "ab")
	for _, s := range []string{"ab", "", "\xff"} {
		for _, f := range []func(string) (parts, api.Errno){d.h.Undo, d.h.Redo} {
			if e, bad := f(s); len(e) != 0 || bad != api.ErrNone {
				t.Errorf("%q: %v, %d", s, e, bad)
			}
		}
	}
	d.mine(replace(t, d.text, 1, 0, "x"))
	d.mine(replace(t, d.text, 1, 0, "y"))
	d.undo()
	was := state(d.h)
	for _, s := range []string{"", "ax", "axbc", "\xff\xff\xff", "ax\xff", "aé", "\xed\xa0\x80"} {
		for _, f := range []func(string) (parts, api.Errno){d.h.Undo, d.h.Redo} {
			if e, bad := f(s); len(e) != 0 || bad != api.ErrEdit || !reflect.DeepEqual(state(d.h), was) {
				t.Errorf("%q: %v, %d", s, e, bad)
			}
		}
	}
	d.undo()
	d.redo()
	d.redo()
	d.shows("ayxb", 2, 0)
}

func TestP173Most(t *testing.T) {
	d := at(t, "")
	for i := range 60 {
		d.mine(replace(t, d.text, i, 0, string(rune('A'+i))))
		if back, _ := d.h.Len(); back != min(i+1, api.MaxUndo) {
			t.Fatal(back)
		}
	}
	for range api.MaxUndo {
		d.undo()
	}
	d.shows("ABCDEFGHIJ", 0, 50)
	if _, bad := d.h.Undo(d.text); bad != api.ErrNone {
		t.Error(bad)
	}
	for range api.MaxUndo {
		d.redo()
	}
	d.shows("ABCDEFGHIJKLMNOPQRSTUVWXYZ[\\]^_`abcdefghijklmnopqrstuvwxyz{|", 50, 0)
}

// A pile that is full takes what is done again, and what is undone, too.
func TestP173MostAgain(t *testing.T) {
	p := pile{}
	for i := range 70 {
		p = p.push(parts{keep(i + 1)})
	}
	if len(p) != api.MaxUndo || p[0][0].N != 21 || p.top()[0].N != 70 {
		t.Error(len(p), p[0], p.top())
	}
	if p = p.pop(); len(p) != api.MaxUndo-1 || p.top()[0].N != 69 {
		t.Error(len(p), p.top())
	}
}

func TestP173NotMade(t *testing.T) {
	var none *History
	for _, h := range []*History{none, {}} {
		back, again := h.Len()
		if h.Size() != 0 || back != 0 || again != 0 {
			t.Error(h.Size(), back, again)
		}
		for _, bad := range []api.Errno{h.Mine(nil, ""), h.Mine(parts{{}}, "\xff"), h.Theirs(nil), h.Theirs(parts{{}}), h.Clear(0), h.Clear(-1)} {
			if bad != api.ErrNil {
				t.Error(bad)
			}
		}
		for _, f := range []func(string) (parts, api.Errno){h.Undo, h.Redo} {
			if e, bad := f(""); len(e) != 0 || bad != api.ErrNil {
				t.Error(e, bad)
			}
		}
	}
}

// maker makes texts and edits by chance, always the same.
type maker struct{ *rand.Rand }

func (m maker) text(most int) string {
	l := []rune{'a', 'b', 'c', 'é', '𝄞', '\n', 0xfffd}
	var b strings.Builder
	for range m.Intn(most + 1) {
		b.WriteRune(l[m.Intn(len(l))])
	}
	return b.String()
}

func (m maker) edit(s string) parts {
	var l parts
	for n := utf8.RuneCountInString(s); n > 0; {
		k := 1 + m.Intn(min(n, 4))
		l = append(l, keep(k))
		if m.Intn(3) == 0 {
			l[len(l)-1] = drop(k)
		}
		if m.Intn(3) == 0 {
			l = append(l, put(m.text(3)))
		}
		n -= k
	}
	if m.Intn(2) == 0 {
		l = append(l, put(m.text(3)))
	}
	return edit.Norm(l...)
}

func many(t *testing.T, seed int64, times int, f func(d *desk, m maker)) {
	m := maker{rand.New(rand.NewSource(seed))}
	for range times {
		f(at(t, m.text(10)), m)
	}
}

func TestP174Back(t *testing.T) {
	many(t, 1, 500, func(d *desk, m maker) {
		for range m.Intn(3) {
			d.mine(m.edit(d.text))
			d.theirs(m.edit(d.text))
		}
		was := d.text
		d.mine(m.edit(d.text))
		is := d.text
		for range 3 {
			if d.undo(); d.text != was {
				t.Fatalf("%q, not %q", d.text, was)
			}
			if d.redo(); d.text != is {
				t.Fatalf("%q, not %q", d.text, is)
			}
		}
	})
}

func TestP175Others(t *testing.T) {
	many(t, 2, 2000, func(d *desk, m maker) {
		was := d.text
		own := m.edit(d.text)
		inverse, _ := edit.Invert(own, d.text)
		d.mine(own)
		e := m.edit(d.text)
		d.theirs(e)
		_, alone, bad := edit.Transform(inverse, e)
		if bad != api.OK {
			t.Fatal(bad)
		}
		want := applied(t, alone, was)
		if d.undo(); d.text != want {
			t.Fatalf("%q, not %q", d.text, want)
		}
	})
}

// Where others put something apart from one's own, it is plain what undoing leaves.
func TestP175Apart(t *testing.T) {
	d := at(t, "one two three")
	d.mine(replace(t, d.text, 4, 3, "2"))
	d.theirs(replace(t, d.text, 0, 3, "1"))
	d.mine(replace(t, d.text, 2, 0, "and "))
	d.theirs(replace(t, d.text, 8, 5, "3"))
	d.shows("1 and 2 3", 2, 0)
	d.undo()
	d.shows("1 2 3", 1, 1)
	d.undo()
	d.shows("1 two 3", 0, 2)
	d.redo()
	d.theirs(replace(t, d.text, 0, 5, ""))
	d.redo()
	d.undo()
	d.undo()
	d.shows("two", 0, 2)
}

func TestP176All(t *testing.T) {
	many(t, 3, 200, func(d *desk, m maker) {
		var texts []string
		for range 1 + m.Intn(api.MaxUndo) {
			texts = append(texts, d.text)
			d.mine(m.edit(d.text))
		}
		last := d.text
		for _, s := range slices.Backward(texts) {
			if d.undo(); d.text != s {
				t.Fatalf("%q, not %q", d.text, s)
			}
		}
		d.shows(texts[0], 0, len(texts))
		for range texts {
			d.redo()
		}
		d.shows(last, len(texts), 0)
	})
}

// book is a history by the chapter's words, as plain lists.
type book struct {
	text        string
	back, again []parts
}

func (b *book) theirs(t *testing.T, e parts) {
	for _, l := range []*[]parts{&b.back, &b.again} {
		f := e
		for i := len(*l) - 1; i >= 0; i-- {
			one, two, bad := edit.Transform((*l)[i], f)
			if bad != api.OK {
				t.Fatal(bad)
			}
			(*l)[i], f = one, two
		}
	}
	b.text = applied(t, e, b.text)
}

func (b *book) move(t *testing.T, from, to *[]parts) (parts, api.Errno) {
	if len(*from) == 0 {
		return nil, api.ErrNone
	}
	e := (*from)[len(*from)-1]
	inverse, _ := edit.Invert(e, b.text)
	*from = (*from)[:len(*from)-1]
	*to = append(*to, inverse)
	b.text = applied(t, e, b.text)
	return e, api.OK
}

func (b *book) mine(t *testing.T, e parts) {
	inverse, _ := edit.Invert(e, b.text)
	b.back, b.again, b.text = append(b.back, inverse), nil, applied(t, e, b.text)
	if len(b.back) > 50 {
		b.back = b.back[1:]
	}
}

func TestP172P173P177Many(t *testing.T) {
	many(t, 4, 60, func(d *desk, m maker) {
		b := &book{text: d.text}
		for range 150 {
			switch m.Intn(6) {
			case 0, 1:
				e := m.edit(d.text)
				d.mine(e)
				b.mine(t, e)
			case 2:
				e := m.edit(d.text)
				d.theirs(e)
				b.theirs(t, e)
			case 3, 4:
				d.same(b, d.h.Undo, &b.back, &b.again)
			case 5:
				d.same(b, d.h.Redo, &b.again, &b.back)
			}
			d.shows(b.text, len(b.back), len(b.again))
		}
	})
}

// same asks both for what is undone, or done again.
func (d *desk) same(b *book, f func(string) (parts, api.Errno), from, to *[]parts) {
	d.Helper()
	text := d.text
	want, wantBad := b.move(d.T, from, to)
	e, bad := f(text)
	if bad != wantBad || !slices.Equal(e, want) {
		d.Fatalf("%v, %d; want %v, %d", e, bad, want, wantBad)
	}
	if bad == api.OK {
		if edit.Check(e, utf8.RuneCountInString(text)) != api.OK {
			d.Fatalf("%v is no edit of %q", e, text)
		}
		d.did(e, bad)
	}
}

func TestExample(t *testing.T) {
	d := at(t, "ab")
	d.mine(replace(t, d.text, 1, 0, "x"))
	d.theirs(replace(t, d.text, 0, 0, "y"))
	d.shows("yaxb", 1, 0)
	d.undo()
	d.shows("yab", 0, 1)
	d.redo()
	d.shows("yaxb", 1, 0)
}

func TestMemory(t *testing.T) {
	scribble := func(e parts) {
		for i := range e {
			e[i] = api.Part{Kind: 9}
		}
		_ = append(e, api.Part{Kind: 9})
	}
	h := fresh(t, 3)
	room := parts{keep(1), put("x"), drop(1), keep(1), {Kind: 7}}
	e := room[:4]
	h.Mine(e, "abc")
	if !slices.Equal(room, parts{keep(1), put("x"), drop(1), keep(1), {Kind: 7}}) {
		t.Error("what was handed in is changed")
	}
	scribble(e)
	f := parts{put("y"), keep(3)}
	h.Theirs(f)
	scribble(f)
	u, bad := h.Undo("yaxc")
	if bad != api.OK || !slices.Equal(u, parts{keep(2), put("b"), drop(1), keep(1)}) {
		t.Fatal(u, bad)
	}
	scribble(u)
	r, bad := h.Redo("yabc")
	if bad != api.OK || !slices.Equal(r, parts{keep(2), put("x"), drop(1), keep(1)}) {
		t.Fatal(r, bad)
	}
	scribble(r)
	if u, bad = h.Undo("yaxc"); bad != api.OK || !slices.Equal(u, parts{keep(2), put("b"), drop(1), keep(1)}) {
		t.Fatal(u, bad)
	}
}

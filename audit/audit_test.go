package audit

import (
	"encoding/hex"
	"fmt"
	"math"
	"math/bits"
	"slices"
	"testing"
	"time"

	"sealskin/api"
	"sealskin/hash"
)

const most = api.MaxIndex

// entries is n entries, unlike one another, and one that is empty.
func entries(n int) [][]byte {
	var l [][]byte
	for i := range n {
		l = append(l, fmt.Appendf(nil, "entry %d", i))
	}
	if n > 3 {
		l[3] = nil
	}
	return l
}

func logOf(t *testing.T, l [][]byte) *Log {
	t.Helper()
	g := New()
	if bad := g.Add(l...); bad != api.OK {
		t.Fatal(bad)
	}
	return g
}

// below is the greatest power of two below n, by going through them.
func below(n int) int {
	k := 1
	for 2*k < n {
		k *= 2
	}
	return k
}

// plainRoot, plainProof and plainGrown go by the chapter's words, over the entries themselves.
func plainRoot(l [][]byte) api.Sum {
	switch n := len(l); n {
	case 0:
		return hash.Of()
	case 1:
		return hash.Of(append([]byte{0}, l[0]...))
	default:
		k := below(n)
		left, right := plainRoot(l[:k]), plainRoot(l[k:])
		return hash.Of(slices.Concat([]byte{1}, left[:], right[:]))
	}
}

func plainProof(l [][]byte, i int) []api.Sum {
	n := len(l)
	if n == 1 {
		return nil
	}
	if k := below(n); i < k {
		return append(plainProof(l[:k], i), plainRoot(l[k:]))
	} else {
		return append(plainProof(l[k:], i-k), plainRoot(l[:k]))
	}
}

func plainGrown(l [][]byte, m int, known bool) []api.Sum {
	n := len(l)
	if m == n && known {
		return nil
	}
	if m == n {
		return []api.Sum{plainRoot(l)}
	}
	if k := below(n); m <= k {
		return append(plainGrown(l[:k], m, known), plainRoot(l[k:]))
	} else {
		return append(plainGrown(l[k:], m-k, false), plainRoot(l[:k]))
	}
}

func root(t *testing.T, g *Log, n int) api.Sum {
	t.Helper()
	s, bad := g.Root(n)
	if bad != api.OK {
		t.Fatalf("Root(%d): %d", n, bad)
	}
	return s
}

func proof(t *testing.T, g *Log, i, n int) []api.Sum {
	t.Helper()
	p, bad := g.Prove(i, n)
	if bad != api.OK {
		t.Fatalf("Prove(%d, %d): %d", i, n, bad)
	}
	return p
}

func grown(t *testing.T, g *Log, m, n int) []api.Sum {
	t.Helper()
	p, bad := g.Grown(m, n)
	if bad != api.OK {
		t.Fatalf("Grown(%d, %d): %d", m, n, bad)
	}
	return p
}

// spoiled is a proof in all ways that are near: a bit of a digest turned, one lacking, one too many, two turned around.
func spoiled(p []api.Sum) [][]api.Sum {
	l := [][]api.Sum{append(slices.Clone(p), api.Sum{}), append([]api.Sum{{}}, p...)}
	for i := range p {
		bad := slices.Clone(p)
		bad[i][i%32] ^= 1 << (i % 8)
		l = append(l, bad, slices.Delete(slices.Clone(p), i, i+1), slices.Insert(slices.Clone(p), i, p[i]))
		if i > 0 && p[i] != p[i-1] {
			bad = slices.Clone(p)
			bad[i], bad[i-1] = bad[i-1], bad[i]
			l = append(l, bad)
		}
	}
	return l
}

func TestP151Entries(t *testing.T) {
	g := New()
	if g.Len() != 0 {
		t.Error(g.Len())
	}
	if b, ok := g.At(0); len(b) != 0 || ok {
		t.Error(b, ok)
	}
	if g.Add() != api.OK || g.Len() != 0 {
		t.Error("none were added")
	}
	if g.Add([]byte("a")) != api.OK || g.Add([]byte("b"), nil, []byte("c")) != api.OK || g.Len() != 4 {
		t.Error(g.Len())
	}
	for i, want := range []string{"a", "b", "", "c"} {
		if b, ok := g.At(i); string(b) != want || !ok {
			t.Errorf("At(%d): %q, %v", i, b, ok)
		}
	}
	for _, i := range []int{-1, 4, math.MinInt, math.MaxInt} {
		if b, ok := g.At(i); len(b) != 0 || ok {
			t.Errorf("At(%d): %q, %v", i, b, ok)
		}
	}
}

// Digests that another program found.
func TestP151Known(t *testing.T) {
	x := make([]byte, 100)
	one := make([]byte, 65)
	for i := range x {
		x[i] = 'x'
	}
	for i := range one {
		one[i] = 1
	}
	g := logOf(t, [][]byte{{'a'}, {'b'}, {'c'}, nil, x, {0}, one})
	for n, want := range []string{
		"69217a3079908094e11121d042354a7c1f55b6482ca1a51e1b250dfd1ed0eef9",
		"ba9113fd11024fdc17e5c5b5bcd34ab2f15969ccd1240d3add646201a1b8aab3",
		"f44ef2ccd5fe412cbc19ddfb1e2a3ffe4898c24ca398c22deee5a318daff6ea9",
		"1ddbc90de50d3521973b6e7122311bb16fc9668f02f800186d500240d00472df",
		"bf10ddc78b6058990e3ac144250c109693124b47296a78821f69ac97280b3d01",
		"98aafcdded41f90848b39cfd11c557bc8d2b13083c240d4ac302a92731bff54c",
		"c934c0eb2ebc11343d9657eeade2be0249edf276fcf5ee15b99e607a5572603c",
		"5f73d2579be22759b67de2d1c070a9466db951a4c26dc0cbb6bdb4ec87869b42",
	} {
		if s := root(t, g, n); hex.EncodeToString(s[:]) != want {
			t.Errorf("Root(%d): %x", n, s)
		}
	}
}

func TestP151Root(t *testing.T) {
	l := entries(70)
	g := logOf(t, l)
	for n := range 71 {
		if root(t, g, n) != plainRoot(l[:n]) {
			t.Errorf("Root(%d)", n)
		}
	}
	for _, n := range []int{-1, 71, math.MinInt, math.MaxInt} {
		if s, bad := g.Root(n); s != (api.Sum{}) || bad != api.ErrArg {
			t.Errorf("Root(%d): %x, %d", n, s, bad)
		}
	}
}

func TestP152Prove(t *testing.T) {
	l := entries(40)
	g := logOf(t, l)
	for n := 1; n <= 40; n++ {
		for i := range n {
			if !slices.Equal(proof(t, g, i, n), plainProof(l[:n], i)) {
				t.Errorf("Prove(%d, %d)", i, n)
			}
		}
	}
	for _, c := range [][2]int{{-1, 1}, {0, 0}, {1, 1}, {2, 1}, {0, 41}, {40, 41}, {0, -1}, {-1, -1}, {math.MinInt, 3}, {math.MaxInt, 3}, {0, math.MaxInt}, {0, math.MinInt}, {-2, math.MinInt}} {
		if p, bad := g.Prove(c[0], c[1]); len(p) != 0 || bad != api.ErrArg {
			t.Errorf("Prove(%d, %d): %v, %d", c[0], c[1], p, bad)
		}
	}
	if _, bad := New().Prove(0, 0); bad != api.ErrArg {
		t.Error(bad)
	}
}

func TestP152Proves(t *testing.T) {
	l := entries(21)
	g := logOf(t, l)
	for n := 1; n <= 21; n++ {
		r := root(t, g, n)
		for i := range n {
			p := proof(t, g, i, n)
			if bad := Proves(l[i], i, n, p, r); bad != api.OK {
				t.Fatalf("%d of %d: %d", i, n, bad)
			}
			for _, q := range spoiled(p) {
				if bad := Proves(l[i], i, n, q, r); bad != api.ErrProof {
					t.Errorf("%d of %d, %d for %d digests: %d", i, n, len(q), len(p), bad)
				}
			}
			other := r
			other[31] ^= 1
			if Proves(l[i], i, n, p, other) != api.ErrProof || Proves(append([]byte{1}, l[i]...), i, n, p, r) != api.ErrProof {
				t.Errorf("%d of %d: another root, another entry", i, n)
			}
			for k := range n {
				if k != i && Proves(l[i], k, n, p, r) != api.ErrProof {
					t.Errorf("%d of %d proves %d, too", i, n, k)
				}
			}
		}
	}
}

// A digest of two entries is no entry, whatever bytes it is told to be of.
func TestP152NoInnerOne(t *testing.T) {
	g := logOf(t, entries(4))
	left, right := plainRoot(entries(2)[:1]), plainRoot(entries(2)[1:])
	inner := slices.Concat(left[:], right[:])
	p := proof(t, g, 0, 4)
	for _, data := range [][]byte{inner, append([]byte{1}, inner...)} {
		if bad := Proves(data, 0, 2, p[1:], root(t, g, 4)); bad != api.ErrProof {
			t.Error(bad)
		}
	}
}

// byHand leads from a digest up through a proof, each time from the side that is told.
func byHand(s api.Sum, p []api.Sum, fromLeft func(i int) bool) api.Sum {
	for i, d := range p {
		if fromLeft(i) {
			s = hash.Of([]byte{1}, s[:], d[:])
		} else {
			s = hash.Of([]byte{1}, d[:], s[:])
		}
	}
	return s
}

func digests(n int) []api.Sum {
	var l []api.Sum
	for i := range n {
		l = append(l, hash.Of(fmt.Append(nil, i)))
	}
	return l
}

func TestP152ProvesFar(t *testing.T) {
	p, data := digests(40), []byte("far")
	first := hash.Of([]byte{0}, data)
	for _, i := range []int{0, 1, most / 2, most - 1, most/2 - 1, 0x5a5a5a5a5a} {
		r := byHand(first, p, func(h int) bool { return i>>h&1 == 0 })
		if bad := Proves(data, i, most, p, r); bad != api.OK {
			t.Errorf("%d: %d", i, bad)
		}
		if Proves(data, i, most, p[:39], r) != api.ErrProof || Proves(data, i^1, most, p, r) != api.ErrProof {
			t.Errorf("%d: what is wrong proves it", i)
		}
	}
	// Of 2^39 + 1 entries the last one has one digest beside it.
	if bad := Proves(data, most/2, most/2+1, p[:1], byHand(first, p[:1], func(int) bool { return false })); bad != api.OK {
		t.Error(bad)
	}
	for _, c := range [][2]int{{-1, 1}, {0, 0}, {1, 1}, {0, most + 1}, {most, most + 1}, {most, most}, {0, -1}, {-2, -1}, {math.MinInt, math.MinInt}, {math.MaxInt, math.MaxInt}, {0, math.MaxInt}, {math.MinInt, math.MaxInt}} {
		for _, q := range [][]api.Sum{nil, p} {
			if bad := Proves(data, c[0], c[1], q, api.Sum{}); bad != api.ErrArg {
				t.Errorf("Proves(%d, %d): %d", c[0], c[1], bad)
			}
		}
	}
}

func TestP153Grown(t *testing.T) {
	l := entries(40)
	g := logOf(t, l)
	for n := 1; n <= 40; n++ {
		for m := 1; m <= n; m++ {
			if !slices.Equal(grown(t, g, m, n), plainGrown(l[:n], m, true)) {
				t.Errorf("Grown(%d, %d)", m, n)
			}
		}
	}
	for _, c := range [][2]int{{0, 0}, {0, 1}, {-1, 1}, {2, 1}, {1, 41}, {41, 41}, {1, -1}, {-1, -1}, {math.MinInt, 3}, {math.MaxInt, 3}, {1, math.MaxInt}, {math.MaxInt, math.MaxInt}, {1, math.MinInt}} {
		if p, bad := g.Grown(c[0], c[1]); len(p) != 0 || bad != api.ErrArg {
			t.Errorf("Grown(%d, %d): %v, %d", c[0], c[1], p, bad)
		}
	}
}

func TestP153Grows(t *testing.T) {
	g := logOf(t, entries(21))
	for n := 1; n <= 21; n++ {
		r := root(t, g, n)
		for m := 1; m <= n; m++ {
			old, p := root(t, g, m), grown(t, g, m, n)
			if bad := Grows(m, n, old, r, p); bad != api.OK {
				t.Fatalf("%d of %d: %d", m, n, bad)
			}
			for _, q := range spoiled(p) {
				if bad := Grows(m, n, old, r, q); bad != api.ErrProof {
					t.Errorf("%d of %d, %d for %d digests: %d", m, n, len(q), len(p), bad)
				}
			}
			other := r
			other[0] ^= 128
			if Grows(m, n, old, other, p) != api.ErrProof || Grows(m, n, other, r, p) != api.ErrProof {
				t.Errorf("%d of %d: another digest", m, n)
			}
			if m < n && Grows(m, n, r, old, p) != api.ErrProof {
				t.Errorf("%d of %d: it shrinks", m, n)
			}
		}
	}
	one := root(t, g, 1)
	if Grows(1, 1, one, one, nil) != api.OK || Grows(1, 1, one, root(t, g, 2), nil) != api.ErrProof {
		t.Error("of one entry")
	}
}

// Of the two digests to which a proof leads, one alone may be another one.
func TestP153Both(t *testing.T) {
	g := logOf(t, entries(7))
	p, r := grown(t, g, 6, 7), root(t, g, 7)
	q := slices.Clone(p)
	q[1][0] ^= 1 // of the seventh, which is none of the first six
	if Grows(6, 7, root(t, g, 6), r, q) != api.ErrProof {
		t.Error("the new one is another one")
	}
	lies := byHand(p[0], p[2:], func(int) bool { return false })
	if lies != root(t, g, 6) {
		t.Fatal("the old one is not as it should be")
	}
	lies[5] ^= 1
	if Grows(6, 7, lies, r, p) != api.ErrProof {
		t.Error("the old one is another one")
	}
}

func TestP153GrowsFar(t *testing.T) {
	p, old := digests(40), hash.Of([]byte("old"))
	r := byHand(old, p, func(int) bool { return true })
	if bad := Grows(1, most, old, r, p); bad != api.OK {
		t.Error(bad)
	}
	if bad := Grows(most/2, most, old, byHand(old, p[:1], func(int) bool { return true }), p[:1]); bad != api.OK {
		t.Error(bad)
	}
	if Grows(1, most, old, r, p[:39]) != api.ErrProof || Grows(most, most, old, old, nil) != api.OK || Grows(most, most, old, r, nil) != api.ErrProof || Grows(most, most, old, old, p[:1]) != api.ErrProof {
		t.Error("the most there are")
	}
	for _, c := range [][2]int{{0, 0}, {0, 1}, {-1, 1}, {2, 1}, {1, most + 1}, {most + 1, most + 1}, {1, -1}, {-1, -1}, {math.MinInt, math.MinInt}, {math.MaxInt, math.MaxInt}, {1, math.MaxInt}, {math.MinInt, 1}} {
		for _, q := range [][]api.Sum{nil, p} {
			if bad := Grows(c[0], c[1], old, old, q); bad != api.ErrArg {
				t.Errorf("Grows(%d, %d): %d", c[0], c[1], bad)
			}
		}
	}
}

func TestP153NotMade(t *testing.T) {
	var none *Log
	for _, g := range []*Log{none, {}} {
		if g.Add() != api.ErrNil || g.Add([]byte("a")) != api.ErrNil || g.Len() != 0 {
			t.Error("Add")
		}
		if b, ok := g.At(0); len(b) != 0 || ok {
			t.Error(b, ok)
		}
		for _, n := range []int{-1, 0, 1} {
			if s, bad := g.Root(n); s != (api.Sum{}) || bad != api.ErrNil {
				t.Error(s, bad)
			}
			if p, bad := g.Prove(0, n); len(p) != 0 || bad != api.ErrNil {
				t.Error(p, bad)
			}
			if p, bad := g.Grown(1, n); len(p) != 0 || bad != api.ErrNil {
				t.Error(p, bad)
			}
		}
	}
}

func TestP154Proofs(t *testing.T) {
	l := entries(300)
	g := logOf(t, l)
	for _, n := range []int{1, 2, 63, 64, 65, 255, 256, 257, 300} {
		r := root(t, g, n)
		for i := range n {
			b, _ := g.At(i)
			if Proves(b, i, n, proof(t, g, i, n), r) != api.OK {
				t.Errorf("%d of %d", i, n)
			}
			if Grows(i+1, n, root(t, g, i+1), r, grown(t, g, i+1, n)) != api.OK {
				t.Errorf("%d, then %d", i+1, n)
			}
		}
	}
}

func TestP155Grows(t *testing.T) {
	l := entries(130)
	g := New()
	var roots []api.Sum
	for at := 0; at < len(l); at += min(at%5, len(l)-at-1) + 1 {
		for n := len(roots); n <= g.Len(); n++ {
			roots = append(roots, root(t, g, n))
		}
		for n, r := range roots {
			if root(t, g, n) != r {
				t.Fatalf("Root(%d) changed", n)
			}
		}
		g.Add(l[at : at+min(at%5, len(l)-at-1)+1]...)
	}
	if g.Len() != 130 || root(t, g, 130) != plainRoot(l) {
		t.Error("added in pieces it is another one")
	}
}

func TestP156Short(t *testing.T) {
	g := logOf(t, entries(300))
	for n := 1; n <= 300; n++ {
		limit := bits.Len(uint(n)) + 1
		for i := range n {
			if k := len(proof(t, g, i, n)); k > limit {
				t.Errorf("Prove(%d, %d) has %d", i, n, k)
			}
			if k := len(grown(t, g, i+1, n)); k > limit {
				t.Errorf("Grown(%d, %d) has %d", i+1, n, k)
			}
		}
	}
}

func TestExample(t *testing.T) {
	g := logOf(t, [][]byte{{'a'}, {'b'}, {'c'}})
	two, c := root(t, g, 2), hash.Of([]byte{0, 'c'})
	if root(t, g, 3) != hash.Of([]byte{1}, two[:], c[:]) {
		t.Error("Root(3)")
	}
	if !slices.Equal(proof(t, g, 2, 3), []api.Sum{two}) || !slices.Equal(grown(t, g, 2, 3), []api.Sum{c}) {
		t.Error("Prove(2, 3), Grown(2, 3)")
	}
}

func TestMemory(t *testing.T) {
	room := []byte("abcdef")
	g := New()
	g.Add(room[:3], room[3:])
	want := root(t, g, 2)
	room[0], room[5] = 'X', 'X'
	b, _ := g.At(0)
	b[1] = 'X'
	_ = append(b, 'X')
	if s, _ := g.At(0); string(s) != "abc" || root(t, g, 2) != want {
		t.Error("it is changed from outside")
	}
	g = logOf(t, entries(9))
	p := proof(t, g, 2, 9)
	for i := range p {
		p[i] = api.Sum{}
	}
	if !slices.Equal(proof(t, g, 2, 9), plainProof(entries(9), 2)) || root(t, g, 9) != plainRoot(entries(9)) {
		t.Error("it is changed by a proof")
	}
	p, q := proof(t, g, 2, 9), []byte("entry 2")
	kept := slices.Clone(p)
	Proves(q, 2, 9, p, root(t, g, 9))
	Grows(2, 9, root(t, g, 2), root(t, g, 9), p)
	if !slices.Equal(p, kept) || string(q) != "entry 2" {
		t.Error("what was handed in is changed")
	}
}

// Each call takes time by how high the log is, not by how long.
func TestNotSlow(t *testing.T) {
	g := logOf(t, entries(1<<15+1))
	start := time.Now()
	for i := range 2000 {
		p, _ := g.Prove(i, 1<<15+1)
		Proves(nil, i, 1<<15+1, p, api.Sum{})
		g.Root(i + 1<<14)
		g.Grown(i+1, 1<<15)
	}
	if d := time.Since(start); d > 20*time.Second {
		t.Error(d)
	}
}

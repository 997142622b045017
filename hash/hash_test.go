package hash

import (
	"bytes"
	"encoding/hex"
	"math"
	"math/bits"
	"math/rand"
	"slices"
	"testing"
	"time"

	"sealskin/api"
)

// pattern is n bytes that are not all alike; those of another start are others.
func pattern(n, start int) []byte {
	b := make([]byte, n)
	for i := range b {
		b[i] = byte(7*i + start + i/251)
	}
	return b
}

func under(t *testing.T, key []byte) *Digest {
	t.Helper()
	d, e := Under(key)
	if e != api.OK || d == nil {
		t.Fatalf("Under %d bytes: %d", len(key), e)
	}
	return d
}

func add(t *testing.T, d *Digest, l ...[]byte) {
	t.Helper()
	if e := d.Add(l...); e != api.OK {
		t.Fatal("Add:", e)
	}
}

func is(t *testing.T, what string, got []byte, want string) {
	t.Helper()
	if hex.EncodeToString(got) != want {
		t.Errorf("%s: %x, want %s", what, got, want)
	}
}

func isSum(t *testing.T, what string, got api.Sum, want string) {
	t.Helper()
	is(t, what, got[:], want)
}

// modelStirs is which words a round stirs, as the chapter lists them.
var modelStirs = [8][4]int{
	{0, 4, 8, 12}, {1, 5, 9, 13}, {2, 6, 10, 14}, {3, 7, 11, 15},
	{0, 5, 10, 15}, {1, 6, 11, 12}, {2, 7, 8, 13}, {3, 4, 9, 14},
}

// model is the digest word for word as the chapter tells it, of all bytes at once; ahead is how many bytes are counted as gone by.
func model(key, data []byte, ahead uint64) api.Sum {
	h := first
	h[0] ^= 0x01010000 ^ uint32(256*len(key)) ^ 0x20
	var all []byte
	if len(key) > 0 {
		all = append(append(all, key...), make([]byte, 64-len(key))...)
	}
	all = append(all, data...)
	blocks := max(1, (len(all)+63)/64)
	padded := append(slices.Clone(all), make([]byte, 64*blocks-len(all))...)
	for n := range blocks {
		var m, v [16]uint32
		for i := range m {
			for j := range 4 {
				m[i] |= uint32(padded[64*n+4*i+j]) << (8 * j)
			}
		}
		copy(v[:8], h[:])
		copy(v[8:], first[:])
		count := ahead + uint64(min(64*(n+1), len(all)))
		v[12] ^= uint32(count)
		v[13] ^= uint32(count >> 32)
		if n == blocks-1 {
			v[14] ^= math.MaxUint32
		}
		for _, o := range orders {
			for i, s := range modelStirs {
				a, b, c, d := &v[s[0]], &v[s[1]], &v[s[2]], &v[s[3]]
				for half, turns := range [2][2]int{{16, 12}, {8, 7}} {
					*a += *b + m[o[2*i+half]]
					*d = bits.RotateLeft32(*d^*a, 32-turns[0])
					*c += *d
					*b = bits.RotateLeft32(*b^*c, 32-turns[1])
				}
			}
		}
		for i := range h {
			h[i] ^= v[i] ^ v[i+8]
		}
	}
	var s api.Sum
	for i := range s {
		s[i] = byte(h[i/4] >> (8 * (i % 4)))
	}
	return s
}

// The wanted digests of these tests were told by another program of the same digest.
func TestP71NewTold(t *testing.T) {
	for _, c := range []struct {
		data []byte
		want string
	}{
		{nil, "69217a3079908094e11121d042354a7c1f55b6482ca1a51e1b250dfd1ed0eef9"},
		{[]byte("abc"), "508c5e8c327c14e2e1a72ba34eeb452f37458b209ed63a294d999b4c86675982"},
		{pattern(1, 0), "e34d74dbaf4ff4c6abd871cc220451d2ea2648846c7757fbaac82fe51ad64bea"},
		{pattern(63, 0), "8711b32e3542deae1acce6409fec6577d9ca7daf80e1dcb5534236beea38e6b3"},
		{pattern(64, 0), "b09537398e20f8cd56dca19d34b4b467633721bef880f40f2f707ebffd097551"},
		{pattern(65, 0), "8936ffcf32a157440820fc06674e4682f76fe78fa7184bfad264c2f6eff6a151"},
		{pattern(127, 0), "e75dc97ed5109a0511a064ffecc29b07676d5532ab9d1455aa18ec998a3020e6"},
		{pattern(128, 0), "9462ab46c9c7779556af81a31d87fe184e631d5e4836bbda5998669d86a6544b"},
		{pattern(129, 0), "9f8fd169776b12dcccd43b31edd795c1542759f975cc5842e88355a96c38234b"},
		{pattern(1000, 0), "4e21ebcf5b9605782268030beac96a8462032b9ba0a1b9397b68e066413a64ad"},
		{pattern(1000000, 0), "9fa4d72e2cd295e658e9a0ba7e118c631c33372d68194204e80ae893472ccf51"},
	} {
		d := New()
		add(t, d, c.data)
		isSum(t, "New, Add, Sum", d.Sum(), c.want)
		isSum(t, "Of", Of(c.data), c.want)
	}
	all := New()
	for n := range 301 {
		s := Of(pattern(n, 0))
		add(t, all, s[:])
	}
	isSum(t, "all of 0 to 300 bytes", all.Sum(), "fe185306c375108da45d2d1f79c43ed04d8094b428585db66c0f21e1ca28e720")
}

func TestP71UnderTold(t *testing.T) {
	for _, c := range []struct {
		key, data int
		want      string
	}{
		{1, 0, "9f69d84855b7b54dd7fe070f6a9c8d8bbbc454f422fda31b6ccf8d12333e4256"},
		{1, 1, "ef8350d83ece08f38d25017baed030af066ca627f8003259d06504021bcaf06a"},
		{1, 64, "a42c3d3394696b9b8ae0d753c69529dd2fdeb91934765cdc8466ac0a96e9eac3"},
		{31, 63, "59376384b36bb24a790a7edcf5ad7641935023d5ffcd124199d105d3635666f5"},
		{31, 65, "11672037651c9d2d28ece43c6e81e17a8bd3eab2cd3aea6433800fa732c74dfe"},
		{32, 0, "ded70e2a58ae08df61cdd4783126815e35b117de79f16e70f94a87a7f231aa00"},
		{32, 128, "dc08c3b7ba0ec1da8a5a89a2825dee1fe81db34f2fce8ae15554ab26088df82d"},
	} {
		d := under(t, pattern(c.key, 3))
		add(t, d, pattern(c.data, 0))
		isSum(t, "Under, Add, Sum", d.Sum(), c.want)
		isSum(t, "Keyed", Keyed(pattern(c.key, 3), pattern(c.data, 0)), c.want)
	}
	all := New()
	for k := 1; k <= 32; k++ {
		for n := range 200 {
			s := Keyed(pattern(k, 5), pattern(n, 0))
			add(t, all, s[:])
		}
	}
	isSum(t, "all keys", all.Sum(), "8350531057049cf0d912b08c5f2bdfd23fd74af13b5d2504ec148f0f4be28bc5")
}

func TestP71UnderRefuses(t *testing.T) {
	for _, key := range [][]byte{nil, {}, make([]byte, 0, 40), make([]byte, 33), make([]byte, 64), make([]byte, 1<<20)} {
		if d, e := Under(key); d != nil || e != api.ErrArg {
			t.Errorf("%d bytes: %v, %d", len(key), d, e)
		}
	}
}

// A key of noughts is no shorter key, and no block of noughts ahead.
func TestP71KeysTell(t *testing.T) {
	seen := map[api.Sum]int{Of(): -1, Of(make([]byte, 64)): -2}
	for n := 1; n <= 32; n++ {
		s := under(t, make([]byte, n)).Sum()
		if m, was := seen[s]; was {
			t.Errorf("%d noughts as %d", n, m)
		}
		seen[s] = n
	}
}

func TestP71Model(t *testing.T) {
	r := rand.New(rand.NewSource(7))
	for range 2000 {
		key, data := make([]byte, r.Intn(33)), make([]byte, r.Intn(300))
		r.Read(key)
		r.Read(data)
		d := New()
		if len(key) > 0 {
			d = under(t, key)
		}
		add(t, d, data)
		if d.Sum() != model(key, data, 0) {
			t.Fatalf("key %x, data %x: %x", key, data, d.Sum())
		}
	}
}

func TestP71CountOfMoreThanOneWord(t *testing.T) {
	for _, ahead := range []uint64{1<<32 - 64, 1 << 32, 5<<32 - 128, 1 << 40} {
		for _, n := range []int{0, 1, 63, 64, 65, 130, 200} {
			d := New()
			d.folded = ahead
			add(t, d, pattern(n, 1))
			if d.Sum() != model(nil, pattern(n, 1), ahead) {
				t.Errorf("%d bytes behind %d", n, ahead)
			}
		}
	}
}

func TestP71Add(t *testing.T) {
	d := New()
	add(t, d)
	add(t, d, nil, []byte{}, nil)
	if d.Sum() != Of() {
		t.Error("nothing was taken in")
	}
	add(t, d, []byte("a"), nil, []byte("b"), []byte("c"))
	isSum(t, "abc", d.Sum(), "508c5e8c327c14e2e1a72ba34eeb452f37458b209ed63a294d999b4c86675982")
}

func TestP71Clone(t *testing.T) {
	for _, n := range []int{0, 1, 63, 64, 65, 128, 200} {
		for _, d := range []*Digest{New(), under(t, []byte("key"))} {
			add(t, d, pattern(n, 0))
			was := d.Sum()
			c := d.Clone()
			if c == d || c.Sum() != was {
				t.Fatalf("%d bytes: another digest", n)
			}
			add(t, c, pattern(70, 1))
			if d.Sum() != was || c.Sum() == was {
				t.Errorf("%d bytes: a clone's bytes went to the other one", n)
			}
			add(t, d, pattern(70, 1))
			if d.Sum() != c.Sum() {
				t.Errorf("%d bytes: the two go apart", n)
			}
		}
	}
}

func TestP71NotMade(t *testing.T) {
	var plain Digest
	for _, d := range []*Digest{nil, {}, new(Digest), &plain} {
		for range 2 {
			if d.Add() != api.ErrNil || d.Add([]byte("a")) != api.ErrNil || d.Sum() != (api.Sum{}) || d.Clone() != nil {
				t.Error("one that no call made")
			}
		}
	}
}

func TestP72Of(t *testing.T) {
	if Of() != Of(nil) || Of() != Of([]byte{}, nil) || Of() == Of([]byte{0}) || Of([]byte{0}) == Of([]byte{0, 0}) {
		t.Error("no bytes, and noughts")
	}
	if Of([]byte("ab"), []byte("c")) != Of([]byte("abc")) || Of([]byte("c"), []byte("ab")) == Of([]byte("abc")) {
		t.Error("one behind the other")
	}
}

func TestP72Keyed(t *testing.T) {
	abc := []byte("abc")
	isSum(t, "no key", Keyed(nil, abc), "f9c9ac7e389fe67b25fe9f331f40c12d89a9a839788b61df6bb342c30e5d9b96")
	isSum(t, "an empty key", Keyed([]byte{}, abc), "f9c9ac7e389fe67b25fe9f331f40c12d89a9a839788b61df6bb342c30e5d9b96")
	isSum(t, "33 bytes", Keyed(pattern(33, 0), abc), "b91370cd000bfc27bc469e7d76635571e9fe4e10d5d086883ec2ceab2f115c29")
	all := New()
	for n := range 140 {
		key, data := pattern(n, 9), pattern(n/2, 0)
		s := Keyed(key, data)
		add(t, all, s[:])
		if n == 0 || n > 32 {
			own := Of(key)
			key = own[:]
		}
		d := under(t, key)
		add(t, d, data)
		if d.Sum() != s {
			t.Errorf("a key of %d bytes", n)
		}
	}
	isSum(t, "keys of 0 to 139 bytes", all.Sum(), "816f53b30a266bfd4d27e0687f4c9b9a2dc683bdcf65ab5942675c79b2f4c779")
	if Keyed([]byte("k")) != Keyed([]byte("k"), nil, []byte{}) || Keyed([]byte("k"), abc) == Keyed([]byte("j"), abc) || Keyed(nil) == Of() {
		t.Error("no bytes, another key")
	}
}

func TestP72Equal(t *testing.T) {
	for _, c := range []struct {
		a, b string
		want bool
	}{
		{"", "", true}, {"a", "a", true}, {"a", "b", false}, {"a", "", false}, {"", "a", false},
		{"ab", "a", false}, {"a", "ab", false}, {"\x00", "", false}, {"ab", "ba", false}, {"ab", "ab", true},
		{"\x01\x01", "\x02\x02", false}, {"\xff\x00", "\xff\x80", false},
	} {
		if Equal([]byte(c.a), []byte(c.b)) != c.want {
			t.Errorf("%q, %q", c.a, c.b)
		}
	}
	if !Equal(nil, nil) || !Equal(nil, []byte{}) || !Equal([]byte{}, nil) {
		t.Error("no bytes are no bytes")
	}
	a := pattern(300, 0)
	for i := range a {
		for bit := range 8 {
			b := slices.Clone(a)
			b[i] ^= 1 << bit
			if Equal(a, b) || Equal(b, a) {
				t.Fatalf("byte %d, bit %d", i, bit)
			}
		}
	}
	if !Equal(a, slices.Clone(a)) || !Equal(a, a) {
		t.Error("the same bytes")
	}
}

func TestP73KeyTold(t *testing.T) {
	k, e := Key([]byte("s"), []byte("u"), 70)
	if e != api.OK {
		t.Fatal(e)
	}
	is(t, "70 bytes", k, "1f3b844999a5d1cda012902ad86d7ab61183195c303f29950bc4ad6716fda8bad524bbd2d7e20fbe4d38415737bd725852211ffe67f783b7cbc49cb99df976db680f860451e8")
	k, e = Key(nil, nil, 33)
	if e != api.OK {
		t.Fatal(e)
	}
	is(t, "of nothing", k, "490503e6d59c93fa4a62c3e1eef1699bb196c309bcb40557ca4f25ccd2b3aa660c")
	k, e = Key([]byte("secret"), []byte("use"), 8160)
	if e != api.OK || len(k) != 8160 {
		t.Fatal(len(k), e)
	}
	isSum(t, "8160 bytes", Of(k), "5f0f1a327fb4bfd9f348bb6236422ab5a51cceeac32b99a9d44bf35c73b2dd80")
	is(t, "the last of them", k[8152:], "a244551d2b8928d8")
}

func TestP73KeyPieces(t *testing.T) {
	secret, use := pattern(50, 0), pattern(90, 1)
	k, e := Key(secret, use, 8160)
	if e != api.OK {
		t.Fatal(e)
	}
	root := Keyed(secret, use)
	piece := Keyed(root[:], []byte{1})
	for i := 1; i <= 255; i++ {
		if !bytes.Equal(k[:32], piece[:]) {
			t.Fatalf("piece %d", i)
		}
		k = k[32:]
		piece = Keyed(root[:], piece[:], []byte{byte(i + 1)})
	}
}

func TestP73KeyRefuses(t *testing.T) {
	for _, n := range []int{-1, math.MinInt, 8161, 1 << 20, math.MaxInt} {
		if k, e := Key([]byte("s"), []byte("u"), n); len(k) != 0 || e != api.ErrArg {
			t.Errorf("%d: %x, %d", n, k, e)
		}
	}
	if k, e := Key([]byte("s"), []byte("u"), 0); len(k) != 0 || e != api.OK {
		t.Errorf("none: %x, %d", k, e)
	}
}

func TestP74PiecesAtEveryPlace(t *testing.T) {
	data := pattern(150, 0)
	key := pattern(20, 1)
	bare, keyed := Of(data), Keyed(key, data)
	for i := 0; i <= len(data); i++ {
		for j := i; j <= len(data); j++ {
			l := [][]byte{data[:i], data[i:j], data[j:]}
			if Of(l...) != bare || Keyed(key, l...) != keyed {
				t.Fatalf("cut at %d and %d", i, j)
			}
		}
	}
}

func TestP74PiecesOfOneByte(t *testing.T) {
	data := pattern(700, 0)
	d := under(t, []byte("k"))
	for i := range data {
		add(t, d, data[i:i+1])
	}
	if d.Sum() != Keyed([]byte("k"), data) {
		t.Error("byte by byte")
	}
}

func TestP74RandomPieces(t *testing.T) {
	r := rand.New(rand.NewSource(74))
	for range 500 {
		data := make([]byte, r.Intn(1000))
		r.Read(data)
		d := New()
		var l [][]byte
		for left := data; len(left) > 0 || r.Intn(3) > 0; {
			n := min(len(left), r.Intn(150))
			l = append(l, left[:n])
			left = left[n:]
			if r.Intn(2) == 0 {
				add(t, d, l...)
				l = nil
			}
		}
		add(t, d, l...)
		if d.Sum() != Of(data) {
			t.Fatalf("%x", data)
		}
	}
}

func TestP75KeysAreBeginnings(t *testing.T) {
	long, _ := Key([]byte("secret"), []byte("use"), 8160)
	for n := 0; n <= len(long); n += 1 + n/40 {
		if k, e := Key([]byte("secret"), []byte("use"), n); e != api.OK || !bytes.Equal(k, long[:n]) {
			t.Fatal(n, e)
		}
	}
	for _, l := range [][2]string{{"secre", "tuse"}, {"secret", "used"}, {"", "use"}, {"secret", ""}, {"use", "secret"}} {
		if k, _ := Key([]byte(l[0]), []byte(l[1]), 64); bytes.Equal(k, long[:64]) {
			t.Errorf("%q: the same key", l)
		}
	}
}

func TestP76SumChangesNothing(t *testing.T) {
	data := pattern(260, 0)
	for _, key := range [][]byte{nil, []byte("key")} {
		d, plain := start(key), start(key)
		for i := range data {
			if d.Sum() != d.Sum() {
				t.Fatalf("asked twice behind %d bytes", i)
			}
			add(t, &d, data[i:i+1])
			add(t, &plain, data[i:i+1])
		}
		if d.Sum() != plain.Sum() || d.Sum() != model(key, data, 0) {
			t.Error("sums that were asked for told")
		}
	}
}

func TestTwoDigestsKnowNothingOfOneAnother(t *testing.T) {
	a, b := New(), under(t, []byte("key"))
	for i := range 200 {
		add(t, a, []byte{byte(i)})
		add(t, b, []byte{byte(i), 1})
	}
	var forA, forB []byte
	for i := range 200 {
		forA = append(forA, byte(i))
		forB = append(forB, byte(i), 1)
	}
	if a.Sum() != Of(forA) || b.Sum() != Keyed([]byte("key"), forB) {
		t.Error("bytes went astray")
	}
}

func TestArgumentsAreNeitherChangedNorKept(t *testing.T) {
	room := pattern(400, 0)
	was := slices.Clone(room)
	key, data := room[:30], room[100:230]
	d := under(t, key)
	add(t, d, data, key)
	first := d.Sum()
	sum, keyed := Of(data), Keyed(room[:50], data)
	made, _ := Key(key, data, 100)
	Equal(key, data)
	if !bytes.Equal(room, was) {
		t.Fatal("an argument was changed")
	}
	saved := slices.Clone(made)
	clear(room)
	if d.Sum() != first || !bytes.Equal(made, saved) {
		t.Error("an argument was kept")
	}
	if sum != Of(was[100:230]) || keyed != Keyed(was[:50], was[100:230]) || first != Keyed(was[:30], was[100:230], was[:30]) {
		t.Error("another digest")
	}
	other, _ := Key(was[:30], was[100:230], 100)
	clear(made[:cap(made)])
	if !bytes.Equal(other, saved) {
		t.Error("two answers share memory")
	}
}

func TestGreatBytesEndSoon(t *testing.T) {
	begin := time.Now()
	d := New()
	piece := pattern(1<<20, 0)
	for range 16 {
		add(t, d, piece)
	}
	for i := range 1 << 16 {
		add(t, d, piece[i:i+1])
	}
	d.Sum()
	if spent := time.Since(begin); spent > 20*time.Second {
		t.Errorf("%v", spent)
	}
}

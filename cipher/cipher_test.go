package cipher

import (
	"bytes"
	"encoding/hex"
	"math"
	"math/rand"
	"slices"
	"testing"
	"time"

	"sealskin/api"
	"sealskin/hash"
	"sealskin/octet"
)

const step = 0x123456789abcdef // so that a test's numbers fill both words

// pattern is n bytes that are not all alike; those of another start are others.
func pattern(n, start int) []byte {
	b := make([]byte, n)
	for i := range b {
		b[i] = byte(7*i + start + i/251)
	}
	return b
}

func random(r *rand.Rand, n int) []byte {
	b := make([]byte, n)
	r.Read(b)
	return b
}

func turn(t *testing.T, key []byte, once uint64, b []byte) []byte {
	t.Helper()
	out, e := Turn(key, once, b)
	if e != api.OK || len(out) != len(b) {
		t.Fatalf("Turn %d bytes: %d, %d", len(b), len(out), e)
	}
	return out
}

func seal(t *testing.T, key []byte, once uint64, head, b []byte) []byte {
	t.Helper()
	out, e := Seal(key, once, head, b)
	if e != api.OK || len(out) != len(b)+16 {
		t.Fatalf("Seal %d bytes: %d, %d", len(b), len(out), e)
	}
	return out
}

func is(t *testing.T, what string, got []byte, want string) {
	t.Helper()
	if hex.EncodeToString(got) != want {
		t.Errorf("%s: %x, want %s", what, got, want)
	}
}

func isSum(t *testing.T, what string, got []byte, want string) {
	t.Helper()
	s := hash.Of(got)
	is(t, what, s[:], want)
}

// refused opens something that must not be.
func refused(t *testing.T, what string, key []byte, once uint64, head, sealed []byte, want api.Errno) {
	t.Helper()
	if b, e := Open(key, once, head, sealed); len(b) != 0 || e != want {
		t.Errorf("%s: %x, %d, want %d", what, b, e, want)
	}
}

// The wanted bytes of these tests were told by other programs of the same stream and digest.
func TestP81Told(t *testing.T) {
	is(t, "noughts", turn(t, make([]byte, 32), 0, make([]byte, 32)), "76b8e0ada0f13d90405d6ae55386bd28bdd219b8a08ded1aa836efcc8b770dc7")
	for _, c := range []struct {
		once          uint64
		begin, digest string
	}{
		{0, "b1ed83732dd9de5a", "5799db1711bd6491299d00be9333f9c7ac370db8f46024e3386053631fd9c62b"},
		{1, "e89079d4630fade6", "096f9edff1fc978200ced9d863614014587064894e6d11a819f692a2e6b04b5f"},
		{0x4a000000, "96f9b7f4055e8740", "3eeb4d25703cae5d3de045ec0a999b6c411804660eea9203be8fbca98ff47d3e"},
		{0xffffffff, "b7400459d0010c1e", "c28bd58cb94444e0dbc1f92b6782f6cff12ebb6face10d66c03eea520e549461"},
		{1 << 32, "29823dcd86b2b3fe", "07cd022ef054be6e4c59b0247a63f6fbd7881340343201a24db7a87ac5172518"},
		{1<<63 + 5, "4fed244c3dfb0a65", "167885cb48a5ddf979d29b89569fa32a55e5efd5b2c0e71d3eee23c9cdfb0411"},
		{math.MaxUint64, "bfdfa563006c1ad8", "e948baf010619ad7aad62ee4be89b06e37c8fccf8de2d4c02f5bed8c44af91fd"},
	} {
		b := turn(t, pattern(32, int(c.once&255)), c.once, pattern(1000, 0))
		is(t, "1000 bytes", b[:8], c.begin)
		isSum(t, "1000 bytes", b, c.digest)
	}
	var all []byte
	for n := range 200 {
		all = append(all, turn(t, pattern(32, n), uint64(n)*step, pattern(n, 0))...)
	}
	isSum(t, "0 to 199 bytes", all, "5cc2420a45faac5ddb9da031fd62f80c486353869101bc31bb1b965cdfcbae13")
}

// A text that is published with what it is turned to, from the stream's second block on.
func TestP81SecondBlock(t *testing.T) {
	b := append(make([]byte, 64), "Ladies and Gentlemen"...)
	is(t, "Ladies", turn(t, []byte("\x00\x01\x02\x03\x04\x05\x06\x07\x08\x09\x0a\x0b\x0c\x0d\x0e\x0f\x10\x11\x12\x13\x14\x15\x16\x17\x18\x19\x1a\x1b\x1c\x1d\x1e\x1f"), 0x4a000000, b)[64:],
		"6e2e359a2568f98041ba0728dd0d6981e97e7aec")
}

func TestP81BlockOfTwoWords(t *testing.T) {
	b := start([streamKey]byte(pattern(32, 0)), 3<<32+7).block(1<<32 + 5)
	is(t, "block 2^32 + 5", b[:16], "809f6e50ae8aa065b1352cb6afd4b5a9")
}

func TestP81KeyOfMoreBytes(t *testing.T) {
	key, b := pattern(100, 0), pattern(100, 1)
	want := turn(t, key[:32], 5, b)
	for _, n := range []int{33, 63, 64, 65, 100} {
		if !bytes.Equal(turn(t, key[:n], 5, b), want) {
			t.Errorf("a key of %d bytes is not its first 32", n)
		}
	}
	for i := range 32 {
		other := slices.Clone(key)
		other[i] ^= 0x10
		if bytes.Equal(turn(t, other, 5, b), want) {
			t.Errorf("byte %d of the key tells nothing", i)
		}
	}
	for bit := range 64 {
		if bytes.Equal(turn(t, key, 5^1<<bit, b), want) {
			t.Errorf("bit %d of once tells nothing", bit)
		}
	}
}

func TestP81Refuses(t *testing.T) {
	for _, key := range [][]byte{nil, {}, make([]byte, 1), make([]byte, 31), make([]byte, 31, 64)} {
		for _, b := range [][]byte{nil, []byte("b")} {
			if out, e := Turn(key, 0, b); len(out) != 0 || e != api.ErrArg {
				t.Errorf("a key of %d bytes: %x, %d", len(key), out, e)
			}
		}
	}
	if out, e := Turn(make([]byte, 32), 0, nil); len(out) != 0 || e != api.OK {
		t.Errorf("no bytes: %x, %d", out, e)
	}
}

func TestP82Told(t *testing.T) {
	key := pattern(64, 0)
	for _, c := range []struct {
		once    uint64
		head, b []byte
		want    string
	}{
		{0, nil, nil, "f32257b2d3b1269b020d76ca274b79be"},
		{9, []byte("head"), []byte("hidden"), "9d56d0492070515be9968dd3df18ce178651d221ed20"},
		{math.MaxUint64, nil, []byte("x"), "4ff804b434fcc4eca08754b5be6c50a9ba"},
		{math.MaxUint64 - 1, []byte("h"), []byte("x"), "991cde6044b0652bd604b6cc98f87e19d2"},
		{1 << 63, bytes.Repeat([]byte("h"), 100), pattern(70, 0), "7409d21d08f8dedf9c918a03c1ceec93013b4c51f8da9aa2381db5d94a3aa60478e20987e1328bd96cddda2e58283b6933e5ae544d8edee75ed0083918b50b69303bcdfa5acee16f9b24f9132fccecb1b9cf9f737fe1"},
	} {
		is(t, "Seal", seal(t, key, c.once, c.head, c.b), c.want)
	}
	var all []byte
	for n := range 200 {
		all = append(all, seal(t, pattern(64, n), uint64(n)*step, pattern(n/3, 0), pattern(n, 0))...)
	}
	isSum(t, "0 to 199 bytes", all, "fe5c39f9f159d30f7d3e4bc4de42def05041aab299c0082ae9f853e945b3c8d2")
}

func TestP82TagOfItsParts(t *testing.T) {
	key, head := pattern(64, 3), pattern(24, 4)
	for _, once := range []uint64{0, 1, 2, 3, 1<<40 + 1, 1<<63 - 1, 1 << 63, math.MaxUint64} {
		for _, n := range []int{0, 1, 63, 64, 65, 500, 16320} {
			b := pattern(n, 5)
			s := seal(t, key, once, head, b)
			hidden := turn(t, key, once, b)
			numbers := octet.Put(nil, int(once/2), int(once%2), len(head))
			sum := hash.Keyed(key[32:], numbers, head, hidden)
			if !bytes.Equal(s, append(hidden, sum[:16]...)) {
				t.Errorf("once %d, %d bytes", once, n)
			}
		}
	}
}

func TestP82WrongKeySizes(t *testing.T) {
	good := seal(t, pattern(64, 0), 1, nil, []byte("b"))
	for _, n := range []int{0, 1, 31, 32, 48, 63, 65, 128, 1 << 16} {
		key := pattern(n, 0)
		if out, e := Seal(key, 1, nil, []byte("b")); len(out) != 0 || e != api.ErrArg {
			t.Errorf("Seal by %d bytes: %x, %d", n, out, e)
		}
		refused(t, "Open by another size", key, 1, nil, good, api.ErrArg)
		refused(t, "Open of short bytes by another size", key, 1, nil, good[:3], api.ErrArg)
	}
	refused(t, "no key", nil, 1, nil, nil, api.ErrArg)
}

func TestP82ShortAhead(t *testing.T) {
	key := pattern(64, 0)
	good := seal(t, key, 1, []byte("head"), nil)
	for n := range 16 {
		refused(t, "fewer than 16 bytes", key, 1, []byte("head"), good[:n], api.ErrShort)
	}
	refused(t, "none", key, 1, nil, nil, api.ErrShort)
	refused(t, "16 bytes that are no tag", key, 1, nil, make([]byte, 16), api.ErrKey)
	if b, e := Open(key, 1, []byte("head"), good); len(b) != 0 || e != api.OK {
		t.Error("the tag of no bytes:", b, e)
	}
}

func TestP82AnyBitTells(t *testing.T) {
	key, head := pattern(64, 0), []byte("head")
	const once = 77
	s := seal(t, key, once, head, pattern(90, 2))
	for bit := range 8 * len(s) {
		s[bit/8] ^= 1 << (bit % 8)
		refused(t, "sealed", key, once, head, s, api.ErrKey)
		s[bit/8] ^= 1 << (bit % 8)
	}
	for bit := range 8 * len(head) {
		head[bit/8] ^= 1 << (bit % 8)
		refused(t, "head", key, once, head, s, api.ErrKey)
		head[bit/8] ^= 1 << (bit % 8)
	}
	for bit := range 8 * 32 {
		key[32+bit/8] ^= 1 << (bit % 8)
		refused(t, "key of the tag", key, once, head, s, api.ErrKey)
		key[32+bit/8] ^= 1 << (bit % 8)
	}
	for bit := range 64 {
		refused(t, "once", key, once^1<<bit, head, s, api.ErrKey)
	}
}

func TestP82OtherForms(t *testing.T) {
	key := pattern(64, 0)
	s := seal(t, key, 4, []byte("head"), []byte("hidden bytes"))
	for n := 16; n < len(s); n++ {
		refused(t, "cut off", key, 4, []byte("head"), s[:n], api.ErrKey)
		refused(t, "cut off ahead", key, 4, []byte("head"), s[len(s)-n:], api.ErrKey)
	}
	refused(t, "more", key, 4, []byte("head"), append(slices.Clone(s), 0), api.ErrKey)
	refused(t, "no head", key, 4, nil, s, api.ErrKey)
	refused(t, "a byte goes to the head", key, 4, append([]byte("head"), s[0]), s[1:], api.ErrKey)
	refused(t, "a byte goes from the head", key, 4, []byte("hea"), append([]byte("d"), s...), api.ErrKey)
}

func TestP83TurnedTwice(t *testing.T) {
	r := rand.New(rand.NewSource(83))
	for n := range 300 {
		key, b := random(r, 32+r.Intn(40)), random(r, n)
		once := r.Uint64()
		hidden := turn(t, key, once, b)
		if !bytes.Equal(turn(t, key, once, hidden), b) {
			t.Fatalf("%d bytes", n)
		}
		if n >= 16 && bytes.Equal(hidden, b) {
			t.Fatalf("%d bytes are not hidden", n)
		}
	}
}

func TestP83SealedAndOpened(t *testing.T) {
	r := rand.New(rand.NewSource(84))
	for range 1000 {
		key, head, b := random(r, 64), random(r, r.Intn(100)), random(r, r.Intn(400))
		once := r.Uint64()
		got, e := Open(key, once, head, seal(t, key, once, head, b))
		if e != api.OK || !bytes.Equal(got, b) {
			t.Fatalf("%d bytes: %d", len(b), e)
		}
	}
}

// What opens is forged by its tag alone, so that it need not have come from Seal.
func TestP84OneForm(t *testing.T) {
	r := rand.New(rand.NewSource(85))
	for range 1000 {
		key, head, hidden := random(r, 64), random(r, r.Intn(50)), random(r, r.Intn(200))
		once := r.Uint64()
		sum := hash.Keyed(key[32:], octet.Put(nil, int(once>>1), int(once&1), len(head)), head, hidden)
		s := append(hidden, sum[:16]...)
		b, e := Open(key, once, head, s)
		if e != api.OK {
			t.Fatal(e)
		}
		if !bytes.Equal(seal(t, key, once, head, b), s) {
			t.Fatal("it is sealed in another form")
		}
	}
}

func TestP85Beginnings(t *testing.T) {
	key, b := pattern(32, 0), pattern(300, 1)
	all := turn(t, key, 3, b)
	for n := range b {
		if !bytes.Equal(turn(t, key, 3, b[:n]), all[:n]) {
			t.Fatalf("the first %d bytes", n)
		}
	}
	sealed := seal(t, append(key, key...), 3, nil, b)
	if !bytes.Equal(sealed[:300], all) {
		t.Error("what is sealed is turned in another way")
	}
}

func TestArgumentsAreNeitherChangedNorKept(t *testing.T) {
	room := pattern(1000, 0)
	was := slices.Clone(room)
	key, head, b := room[:64], room[100:124], room[200:330]
	hidden := turn(t, key, 5, b)
	sealed := seal(t, key, 5, head, b)
	opened, e := Open(key, 5, head, sealed)
	if e != api.OK {
		t.Fatal(e)
	}
	if !bytes.Equal(room, was) {
		t.Fatal("an argument was changed")
	}
	all := append(append(slices.Clone(hidden), sealed...), opened...)
	clear(room)
	if !bytes.Equal(append(append(slices.Clone(hidden), sealed...), opened...), all) {
		t.Error("an argument was kept")
	}
	copy(room, was)
	clear(hidden[:cap(hidden)])
	clear(opened[:cap(opened)])
	if !bytes.Equal(sealed, all[130:276]) {
		t.Error("two answers share memory")
	}
	clear(sealed[:cap(sealed)])
	if !bytes.Equal(room, was) || !bytes.Equal(seal(t, key, 5, head, b), all[130:276]) {
		t.Error("an answer shares memory with an argument")
	}
}

func TestOneListAsAllArguments(t *testing.T) {
	x := pattern(64, 0)
	was := slices.Clone(x)
	s := seal(t, x, 1, x, x)
	b, e := Open(x, 1, x, s)
	if e != api.OK || !bytes.Equal(b, was) || !bytes.Equal(x, was) || !bytes.Equal(turn(t, x, 1, x), s[:64]) {
		t.Error(b, e)
	}
}

func TestGreatBytesEndSoon(t *testing.T) {
	begin := time.Now()
	key, b := pattern(64, 0), pattern(1<<24, 1)
	got, e := Open(key, 1, b, seal(t, key, 1, b, b))
	if e != api.OK || !bytes.Equal(got, b) {
		t.Fatal(e)
	}
	if spent := time.Since(begin); spent > 20*time.Second {
		t.Errorf("%v", spent)
	}
}

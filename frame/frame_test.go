package frame

import (
	"bytes"
	"encoding/hex"
	"math"
	"math/rand"
	"reflect"
	"testing"

	"sealskin/api"
	"sealskin/cipher"
	"sealskin/hash"
	"sealskin/octet"
)

// long is a body of n bytes that are not all alike.
func long(n int) []byte {
	b := make([]byte, n)
	for i := range b {
		b[i] = byte(i*7 + i>>8 + 3)
	}
	return b
}

func wrapped(t *testing.T, key []byte, up bool, f api.Frame) []byte {
	t.Helper()
	b, bad := Wrap(key, up, f)
	if bad != api.OK {
		t.Fatalf("%d of %d: %d", f.Seq, f.Conn, bad)
	}
	return b
}

// Keys that another program made by the chapters' words.
func TestP132Key(t *testing.T) {
	for _, c := range []struct {
		secret    string
		who, conn int
		want      string
	}{
		{"pw", 0, 1, "053569ba796e22ab7b825aa710d02575c54e55d4d7bde112660aad319ba95ae7bdf9565da861e835f02cadcacbb4ffa6b5d18eabac7f6ee6612dcdafa7ceb93d"},
		{"", 7, 1 << 40, "7f385a4e4013aa0e6ab97805352349773de83a41c65667951a731dc583ebcbd3a61a6f9efa7f025e4112624c8e053aebe7cb37a376afbc2eedab6ef78bc44c3a"},
		{"a long secret of more than 32 bytes, by its digest", 3, 300, "a7a0990a6fc920692e3ad07eaa0b2be510926cc0ac2ce745b8d44cc54035b457adede4a66f3dbcec3f3a8410ebdf30690a920144c8c756bb3ad84c7fd8cf3a5c"},
	} {
		if got := hex.EncodeToString(Key(c.secret, c.who, c.conn)); got != c.want {
			t.Errorf("%q, %d, %d: %s", c.secret, c.who, c.conn, got)
		}
	}
}

func TestP132KeyOfAnyNumbers(t *testing.T) {
	for _, c := range []struct{ who, conn int }{{0, 0}, {-1, 5}, {5, -1}, {math.MinInt, math.MinInt}, {math.MaxInt, math.MaxInt}} {
		want, _ := hash.Key([]byte("\xff"), octet.Put(nil, c.who, c.conn), 64)
		if got := Key("\xff", c.who, c.conn); len(got) != 64 || !bytes.Equal(got, want) {
			t.Errorf("%d, %d: %x", c.who, c.conn, got)
		}
	}
	one, two := Key("pw", 0, 1), Key("pw", 0, 1)
	one[0]++
	if one[0] == two[0] {
		t.Error("two keys share a list")
	}
}

func TestP132Fits(t *testing.T) {
	x, most, over := []byte("x"), long(16320), long(16321)
	for _, c := range []struct {
		f    api.Frame
		want api.Errno
	}{
		{api.Frame{Conn: 1}, api.OK},
		{api.Frame{Conn: 1, Body: []byte{}}, api.OK},
		{api.Frame{Conn: 1 << 40, Ack: 1 << 40}, api.OK},
		{api.Frame{Conn: 1 << 40, Seq: 1 << 40, Ack: 1 << 40, Body: x}, api.OK},
		{api.Frame{Conn: 1, Seq: 1, Body: x}, api.OK},
		{api.Frame{Conn: 1, Seq: 1, Body: most}, api.OK},
		{api.Frame{}, api.ErrForm},
		{api.Frame{Conn: -1}, api.ErrForm},
		{api.Frame{Conn: 1<<40 + 1}, api.ErrForm},
		{api.Frame{Conn: math.MaxInt}, api.ErrForm},
		{api.Frame{Conn: math.MinInt}, api.ErrForm},
		{api.Frame{Conn: 1, Seq: -1, Body: x}, api.ErrForm},
		{api.Frame{Conn: 1, Seq: 1<<40 + 1, Body: x}, api.ErrForm},
		{api.Frame{Conn: 1, Seq: math.MinInt, Body: x}, api.ErrForm},
		{api.Frame{Conn: 1, Ack: -1}, api.ErrForm},
		{api.Frame{Conn: 1, Ack: 1<<40 + 1}, api.ErrForm},
		{api.Frame{Conn: 1, Seq: 1}, api.ErrForm},
		{api.Frame{Conn: 1, Body: x}, api.ErrForm},
		{api.Frame{Conn: 1, Seq: 1, Body: over}, api.ErrLong},
		{api.Frame{Conn: 1, Seq: 1, Body: long(1 << 20)}, api.ErrLong},
		{api.Frame{Conn: 0, Seq: 1, Body: over}, api.ErrForm},
		{api.Frame{Conn: 1, Seq: -1, Body: over}, api.ErrForm},
		{api.Frame{Conn: 1, Seq: 1, Ack: -1, Body: over}, api.ErrForm},
		{api.Frame{Conn: 1, Body: over}, api.ErrForm},
	} {
		if got := Fits(c.f); got != c.want {
			t.Errorf("%d %d %d, %d bytes: %d", c.f.Conn, c.f.Seq, c.f.Ack, len(c.f.Body), got)
		}
		b, bad := Wrap(Key("pw", 0, 1), true, c.f)
		if bad != c.want || c.want != api.OK && len(b) != 0 {
			t.Errorf("%d %d %d, %d bytes: wrapped %d, %d", c.f.Conn, c.f.Seq, c.f.Ack, len(c.f.Body), len(b), bad)
		}
	}
}

// Frames that another program made by the chapters' words.
func TestP133Wrap(t *testing.T) {
	for _, c := range []struct {
		up   bool
		f    api.Frame
		want string
	}{
		{true, api.Frame{Conn: 1, Seq: 1, Body: []byte("x")}, "0000000000000001000000000000000100000000000000005dc71b98dc21055d6a8664d4c43bea41b8"},
		{false, api.Frame{Conn: 1, Seq: 1, Body: []byte("x")}, "000000000000000100000000000000010000000000000000209fc3173810079568b86083017b8a09a0"},
		{true, api.Frame{Conn: 300, Ack: 7}, "000000000000012c00000000000000000000000000000007373b4b98b16293050e758fcd53e12f8a"},
		{false, api.Frame{Conn: 300, Ack: 7}, "000000000000012c000000000000000000000000000000077496ba9fec1bdf9ca2b94b506d804dda"},
		{true, api.Frame{Conn: 1 << 40, Seq: 1 << 40, Ack: 1 << 40, Body: []byte("sealskin")}, "00000100000000000000010000000000000001000000000009d56cfe553d1df9b818d4203b6561b0a590f28f77863bb6"},
		{false, api.Frame{Conn: 1 << 40, Seq: 1 << 40, Ack: 1 << 40, Body: []byte("sealskin")}, "000001000000000000000100000000000000010000000000bd318c0127f38370f460edb24d81f1bd69022f3a4eb04ba4"},
	} {
		if got := hex.EncodeToString(wrapped(t, Key("pw", 0, 1), c.up, c.f)); got != c.want {
			t.Errorf("%t, %+v: %s", c.up, c.f, got)
		}
	}
}

func TestP133WrongKeys(t *testing.T) {
	f := api.Frame{Conn: 1, Seq: 1, Body: []byte("x")}
	b := wrapped(t, Key("pw", 0, 1), true, f)
	for _, n := range []int{0, 1, 32, 63, 65, 128} {
		key := make([]byte, n)
		if b, bad := Wrap(key, true, f); len(b) != 0 || bad != api.ErrArg {
			t.Errorf("Wrap by %d bytes: %d, %d", n, len(b), bad)
		}
		if b, bad := Wrap(key, true, api.Frame{Conn: 1, Seq: 1}); len(b) != 0 || bad != api.ErrForm {
			t.Errorf("Wrap of none by %d bytes: %d, %d", n, len(b), bad)
		}
		if b, bad := Wrap(key, true, api.Frame{Conn: 1, Seq: 1, Body: long(16321)}); len(b) != 0 || bad != api.ErrLong {
			t.Errorf("Wrap of many by %d bytes: %d, %d", n, len(b), bad)
		}
		if got, bad := Unwrap(key, true, b); !reflect.DeepEqual(got, api.Frame{}) || bad != api.ErrArg {
			t.Errorf("Unwrap by %d bytes: %+v, %d", n, got, bad)
		}
		if got, bad := Unwrap(key, true, b[:40]); !reflect.DeepEqual(got, api.Frame{}) || bad != api.ErrForm {
			t.Errorf("Unwrap of few by %d bytes: %+v, %d", n, got, bad)
		}
	}
	for _, key := range [][]byte{Key("px", 0, 1), Key("pw", 1, 1), Key("pw", 0, 2), make([]byte, 64)} {
		if got, bad := Unwrap(key, true, b); !reflect.DeepEqual(got, api.Frame{}) || bad != api.ErrKey {
			t.Errorf("another key: %+v, %d", got, bad)
		}
	}
}

// shown is bytes that begin with three numbers, and have so many in all.
func shown(conn, seq, ack, size int) []byte {
	return append(octet.Put(nil, conn, seq, ack), long(size)...)[:size]
}

func TestP133Peek(t *testing.T) {
	for _, c := range []struct{ conn, seq, ack, size int }{
		{1, 0, 0, 40}, {1 << 40, 0, 1 << 40, 40}, {1, 1, 0, 41}, {1, 1 << 40, 3, 42}, {7, 5, 3, 16360}, {7, 5, 3, 16359},
	} {
		if f, bad := Peek(shown(c.conn, c.seq, c.ack, c.size)); !reflect.DeepEqual(f, api.Frame{Conn: c.conn, Seq: c.seq, Ack: c.ack}) || bad != api.OK {
			t.Errorf("%+v: %+v, %d", c, f, bad)
		}
	}
	for _, c := range []struct{ conn, seq, ack, size int }{
		{1, 0, 0, 39}, {1, 0, 0, 41}, {1, 0, 0, 24}, {1, 0, 0, 0}, {1, 0, 0, 23}, {1, 0, 0, 16360}, {1, 1, 0, 16}, {1, 1, 0, 24},
		{1, 1, 0, 40}, {1, 1, 0, 39}, {1, 1, 0, 16361}, {1, 1, 0, 1 << 20},
		{0, 0, 0, 40}, {1<<40 + 1, 0, 0, 40}, {math.MaxInt, 0, 0, 40}, {0, 1, 0, 41},
		{1, 1<<40 + 1, 0, 41}, {1, math.MaxInt, 0, 41}, {1, 0, 1<<40 + 1, 40}, {1, 1, 1<<40 + 1, 41}, {1, 0, math.MaxInt, 40},
	} {
		b := shown(c.conn, c.seq, c.ack, c.size)
		if f, bad := Peek(b); !reflect.DeepEqual(f, api.Frame{}) || bad != api.ErrForm {
			t.Errorf("%+v: %+v, %d", c, f, bad)
		}
		if f, bad := Unwrap(Key("pw", 0, 1), true, b); !reflect.DeepEqual(f, api.Frame{}) || bad != api.ErrForm {
			t.Errorf("Unwrap of %+v: %+v, %d", c, f, bad)
		}
	}
	for i := range 3 {
		b := shown(1, 1, 1, 41)
		b[8*i] = 0x80
		if f, bad := Peek(b); !reflect.DeepEqual(f, api.Frame{}) || bad != api.ErrForm {
			t.Errorf("number %d above 2^63 - 1: %+v, %d", i, f, bad)
		}
	}
}

// Whatever byte is another one, the frame is no more one of the key; nor is it the other way.
func TestP133Sealed(t *testing.T) {
	key := Key("pw", 2, 9)
	for _, up := range []bool{true, false} {
		for _, f := range []api.Frame{{Conn: 9, Seq: 5, Ack: 4, Body: []byte("hidden")}, {Conn: 9, Ack: 4}} {
			b := wrapped(t, key, up, f)
			if got, bad := Unwrap(key, !up, b); !reflect.DeepEqual(got, api.Frame{}) || bad != api.ErrKey {
				t.Errorf("the other way: %+v, %d", got, bad)
			}
			for i := range b {
				x := bytes.Clone(b)
				x[i] ^= 1
				want := api.ErrKey
				if _, bad := Peek(x); bad != api.OK {
					want = bad
				}
				if got, bad := Unwrap(key, up, x); !reflect.DeepEqual(got, api.Frame{}) || bad != want {
					t.Errorf("byte %d: %+v, %d", i, got, bad)
				}
			}
		}
	}
}

// Both ways have one key: what hides a body must be another stream in each, and for each number.
func TestP133Streams(t *testing.T) {
	key, body := Key("pw", 0, 1), make([]byte, 64)
	seen := map[string]bool{}
	for seq := 1; seq < 200; seq++ {
		for _, up := range []bool{true, false} {
			b := wrapped(t, key, up, api.Frame{Conn: 1, Seq: seq, Body: body})
			hidden := string(b[24 : len(b)-16])
			if seen[hidden] {
				t.Fatalf("%d, %t: a stream comes again", seq, up)
			}
			seen[hidden] = true
		}
	}
	again := wrapped(t, key, true, api.Frame{Conn: 1, Seq: 9, Ack: 3, Body: body})
	if !seen[string(again[24:len(again)-16])] {
		t.Error("what is sent again is hidden by another stream")
	}
}

func TestP134FramesThereAndBack(t *testing.T) {
	r := rand.New(rand.NewSource(134))
	for i := range 1000 {
		f := api.Frame{Conn: 1 + r.Intn(1<<40), Ack: r.Intn(1<<40 + 1)}
		if i%3 > 0 {
			f.Seq, f.Body = 1+r.Intn(1<<40), long(1+r.Intn(300))
		}
		key := Key("pw", i%8, f.Conn)
		b := wrapped(t, key, i%2 == 0, f)
		if got, bad := Unwrap(key, i%2 == 0, b); !reflect.DeepEqual(got, f) || bad != api.OK || len(b) != 40+len(f.Body) {
			t.Fatalf("%+v: %+v, %d", f, got, bad)
		}
		if got, bad := Peek(b); got.Conn != f.Conn || got.Seq != f.Seq || got.Ack != f.Ack || len(got.Body) != 0 || bad != api.OK {
			t.Fatalf("%+v: %+v, %d", f, got, bad)
		}
	}
	f := api.Frame{Conn: 1, Seq: 1, Body: long(16320)}
	if got, bad := Unwrap(Key("", 0, 1), false, wrapped(t, Key("", 0, 1), false, f)); !reflect.DeepEqual(got, f) || bad != api.OK {
		t.Error(len(got.Body), bad)
	}
}

// Whoever has the key may seal bytes of their own behind any head: what is opened of these is wrapped so again.
func TestP135FramesOneForm(t *testing.T) {
	key := Key("pw", 0, 1)
	opened := 0
	for i := range 1 << 10 {
		up := i&1 == 1
		seq, size := i>>1&3, i>>3&3
		head := octet.Put(nil, i>>5&1, seq, i>>6&1<<40)
		sealed, _ := cipher.Seal(key, 2*uint64(seq)+uint64(i>>7&1), head, long(size))
		b := append(head, append(sealed, long(i>>8&1)...)...)
		f, bad := Unwrap(key, up, b)
		if bad != api.OK {
			continue
		}
		opened++
		if again := wrapped(t, key, up, f); !bytes.Equal(again, b) {
			t.Fatalf("%x: %x", b, again)
		}
	}
	if opened < 50 {
		t.Errorf("only %d were opened", opened)
	}
}

func TestMemoryOfFrames(t *testing.T) {
	key := append(Key("pw", 0, 1), 7, 7, 7)[:64]
	body := append([]byte("hidden"), 7, 7, 7)[:6]
	keyGiven, bodyGiven := bytes.Clone(key[:67]), bytes.Clone(body[:9])
	f := api.Frame{Conn: 1, Seq: 1, Body: body}
	b := wrapped(t, key, true, f)
	other := wrapped(t, key, true, f)
	b = append(b, 7, 7, 7)[:46]
	given := bytes.Clone(b[:49])
	one, _ := Unwrap(key, true, b)
	two, _ := Unwrap(key, true, b)
	for _, l := range [][]byte{one.Body, other} {
		for i := range l[:cap(l)] {
			l[:cap(l)][i] = 1
		}
	}
	if !bytes.Equal(key[:67], keyGiven) || !bytes.Equal(body[:9], bodyGiven) || !bytes.Equal(b[:49], given) {
		t.Error("what is handed in has changed")
	}
	clear(b)
	clear(key)
	if string(two.Body) != "hidden" {
		t.Errorf("an answer is not its own: %q", two.Body)
	}
}

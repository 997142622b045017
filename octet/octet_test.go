package octet

import (
	"bytes"
	"math"
	"strings"
	"testing"

	"sealskin/api"
)

// lengths is how many bytes a block may have, at the edges and between.
var lengths = []int{0, 1, 2, 255, 256, 300, api.MaxFrame - 1, api.MaxFrame}

// pattern is n bytes that are not all alike.
func pattern(n int) []byte {
	b := make([]byte, n)
	for i := range b {
		b[i] = byte(i*7 + i>>8 + 3)
	}
	return b
}

func sealed(t *testing.T, data []byte) []byte {
	t.Helper()
	b, e := Seal(data)
	if e != api.OK {
		t.Fatalf("a block of %d bytes: %d", len(data), e)
	}
	return b
}

func join(l ...[]byte) []byte { return bytes.Join(l, nil) }

func TestP21Put(t *testing.T) {
	for _, c := range []struct {
		b    []byte
		l    []int
		want string
	}{
		{nil, nil, ""},
		{[]byte("ab"), nil, "ab"},
		{nil, []int{300}, "\x00\x00\x00\x00\x00\x00\x01\x2c"},
		{[]byte("ab"), []int{1, 2}, "ab\x00\x00\x00\x00\x00\x00\x00\x01\x00\x00\x00\x00\x00\x00\x00\x02"},
		{nil, []int{-1, math.MinInt, 0}, strings.Repeat("\x00", 24)},
		{nil, []int{math.MaxInt}, "\x7f\xff\xff\xff\xff\xff\xff\xff"},
		{nil, []int{0x0123456789abcdef}, "\x01\x23\x45\x67\x89\xab\xcd\xef"},
	} {
		if got := Put(c.b, c.l...); string(got) != c.want {
			t.Errorf("Put(%q, %v): %q", c.b, c.l, got)
		}
	}
}

func TestP21PutBytesAndText(t *testing.T) {
	for _, c := range []struct{ b, data, want string }{
		{"", "", "\x00\x00\x00\x00\x00\x00\x00\x00"},
		{"ab", "", "ab\x00\x00\x00\x00\x00\x00\x00\x00"},
		{"ab", "c\xff", "ab\x00\x00\x00\x00\x00\x00\x00\x02c\xff"},
		{"", "é", "\x00\x00\x00\x00\x00\x00\x00\x02é"},
	} {
		if got := PutBytes([]byte(c.b), []byte(c.data)); string(got) != c.want {
			t.Errorf("PutBytes(%q, %q): %q", c.b, c.data, got)
		}
		if got := PutText([]byte(c.b), c.data); string(got) != c.want {
			t.Errorf("PutText(%q, %q): %q", c.b, c.data, got)
		}
	}
	long := pattern(api.MaxFrame + 1)
	if got := PutBytes(nil, long); len(got) != 8+len(long) || !bytes.Equal(got[8:], long) {
		t.Error("bytes have no limit of their own")
	}
}

// The sum begins at ffffffff, so bytes whose first four are turned round have the sum that the bytes have when it begins at 0: of "123456789" that is known to be 3010bf7f.
func TestP21Sum(t *testing.T) {
	b := []byte("123456789")
	for i := range 4 {
		b[i] = ^b[i]
	}
	if s := Sum(b); s != 0x3010bf7f {
		t.Errorf("%x", s)
	}
	if Sum(nil) != 0xffffffff || Sum([]byte{}) != 0xffffffff {
		t.Error("the sum of no bytes")
	}
	if s := Sum([]byte{0xff, 0xff, 0xff, 0xff, 1}); s != 0x814141ab {
		t.Errorf("%x", s)
	}
}

func TestP21Seal(t *testing.T) {
	if b := sealed(t, []byte("a")); len(b) != 13 {
		t.Errorf("%q", b)
	}
	for _, n := range lengths {
		data := pattern(n)
		b := sealed(t, data)
		head := PutBytes(nil, data)
		s := Sum(head)
		if !bytes.Equal(b, append(head, byte(s>>24), byte(s>>16), byte(s>>8), byte(s))) {
			t.Errorf("a block of %d bytes", n)
		}
	}
	for _, n := range []int{api.MaxFrame + 1, 1 << 20} {
		if b, e := Seal(make([]byte, n)); len(b) != 0 || e != api.ErrLong {
			t.Errorf("%d bytes: %d, %d", n, len(b), e)
		}
	}
}

func TestP22Number(t *testing.T) {
	r := Read(Put(nil, 0, 300, math.MaxInt))
	if r.Left() != 24 || r.Number() != 0 || r.Left() != 16 || r.Number() != 300 || r.Number() != math.MaxInt || r.Left() != 0 || r.Err() != api.OK || r.End() != api.OK {
		t.Fatal(r.Left(), r.Err())
	}
	for _, c := range []struct {
		b    string
		want api.Errno
	}{
		{"", api.ErrShort},
		{"1234567", api.ErrShort},
		{"\xff\xff\xff\xff\xff\xff\xff", api.ErrShort},
		{"\x80\x00\x00\x00\x00\x00\x00\x00", api.ErrRange},
		{"\xff\xff\xff\xff\xff\xff\xff\xff", api.ErrRange},
	} {
		r := Read([]byte(c.b))
		if n := r.Number(); n != 0 || r.Err() != c.want || r.End() != c.want || r.Left() != len(c.b) {
			t.Errorf("%q: %d, %d, %d left", c.b, n, r.Err(), r.Left())
		}
	}
}

func TestP22Within(t *testing.T) {
	for _, c := range []struct {
		n, lo, hi int
		want      api.Errno
	}{
		{5, 5, 5, api.OK},
		{5, 0, 5, api.OK},
		{5, 5, 9, api.OK},
		{5, -9, math.MaxInt, api.OK},
		{0, math.MinInt, 0, api.OK},
		{math.MaxInt, 0, math.MaxInt, api.OK},
		{5, 6, 9, api.ErrRange},
		{5, 0, 4, api.ErrRange},
		{5, 9, 1, api.ErrRange},
		{0, -5, -1, api.ErrRange},
		{math.MaxInt, 0, math.MaxInt - 1, api.ErrRange},
	} {
		r := Read(Put(nil, c.n))
		want, left := c.n, 0
		if c.want != api.OK {
			want, left = 0, 8
		}
		if n := r.Within(c.lo, c.hi); n != want || r.Err() != c.want || r.Left() != left {
			t.Errorf("%d within %d and %d: %d, %d, %d left", c.n, c.lo, c.hi, n, r.Err(), r.Left())
		}
	}
	if r := Read([]byte("1234567")); r.Within(9, 1) != 0 || r.Err() != api.ErrShort {
		t.Error("too short", r.Err())
	}
	if r := Read(bytes.Repeat([]byte{0xff}, 8)); r.Within(math.MinInt, math.MaxInt) != 0 || r.Err() != api.ErrRange {
		t.Error("above 2^63 - 1", r.Err())
	}
}

func TestP22Bytes(t *testing.T) {
	five := PutBytes(nil, []byte("abcde"))
	for _, c := range []struct {
		b    []byte
		most int
		data string
		want api.Errno
	}{
		{five, 5, "abcde", api.OK},
		{five, math.MaxInt, "abcde", api.OK},
		{five, 4, "", api.ErrLong},
		{five, -1, "", api.ErrLong},
		{five[:12], 5, "", api.ErrShort},
		{five[:8], 5, "", api.ErrShort},
		{five[:12], 4, "", api.ErrLong},
		{five[:7], 0, "", api.ErrShort},
		{nil, 5, "", api.ErrShort},
		{Put(nil, 0), 0, "", api.OK},
		{Put(nil, 0), math.MinInt, "", api.OK},
		{Put(nil, math.MaxInt), math.MaxInt, "", api.ErrShort},
		{Put(nil, math.MaxInt), math.MaxInt - 1, "", api.ErrLong},
		{bytes.Repeat([]byte{0xff}, 99), 0, "", api.ErrRange},
	} {
		r := Read(c.b)
		left := 0
		if c.want != api.OK {
			left = len(c.b)
		}
		if b := r.Bytes(c.most); string(b) != c.data || r.Err() != c.want || r.Left() != left {
			t.Errorf("%q, at most %d: %q, %d, %d left", c.b, c.most, b, r.Err(), r.Left())
		}
	}
}

func TestP22Text(t *testing.T) {
	for _, c := range []struct {
		s    string
		most int
		want api.Errno
	}{
		{"", 0, api.OK},
		{"", math.MinInt, api.OK},
		{"a", 0, api.ErrLong},
		{"a", -1, api.ErrLong},
		{"\xff", -1, api.ErrLong},
		{"é\U0001f600", 2, api.OK},
		{"\U0001f600\U0001f600", 2, api.OK},
		{"\U0001f600\U0001f600", 1, api.ErrLong},
		{"abc", 2, api.ErrLong},
		{"ab\xff", 2, api.ErrText},
		{"abcdefgh\xff", 2, api.ErrLong},
		{"\xff", 1, api.ErrText},
		{"\xed\xa0\x80", 3, api.ErrText},
		{"\xc0\x80", 2, api.ErrText},
		{"\xf4\x90\x80\x80", 4, api.ErrText},
		{"é"[:1], 1, api.ErrText},
		{"\ufffd\x00", 2, api.OK},
		{strings.Repeat("\U0001f600", 1<<14), 1 << 14, api.OK},
		{strings.Repeat("a", 1<<14), math.MaxInt, api.OK},
		{strings.Repeat("a", 1<<14+1), math.MaxInt, api.ErrLong},
		{strings.Repeat("a", 1<<16+1), math.MaxInt, api.ErrLong},
		{strings.Repeat("\xff", 1<<16), math.MaxInt, api.ErrText},
		{strings.Repeat("\xff", 1<<16+1), math.MaxInt, api.ErrLong},
	} {
		b := PutText(nil, c.s)
		r := Read(b)
		want, left := c.s, 0
		if c.want != api.OK {
			want, left = "", len(b)
		}
		if s := r.Text(c.most); s != want || r.Err() != c.want || r.Left() != left {
			t.Errorf("%.20q, at most %d: %.20q, %d, %d left", c.s, c.most, s, r.Err(), r.Left())
		}
	}
	for b, want := range map[string]api.Errno{"": api.ErrShort, "1234567": api.ErrShort, "\xff1234567": api.ErrRange, "\x00\x00\x00\x00\x00\x00\x00\x02a": api.ErrShort} {
		if r := Read([]byte(b)); r.Text(9) != "" || r.Err() != want {
			t.Errorf("%q: %d", b, r.Err())
		}
	}
}

// Once something can't be read, nothing is, whatever it is; the first error stays, and the reader stands where it stood.
func TestP22FirstErrorStays(t *testing.T) {
	fails := map[api.Errno]func(r *Reader){
		api.ErrRange: func(r *Reader) { r.Within(9, 9) },
		api.ErrLong:  func(r *Reader) { r.Bytes(1) },
		api.ErrText:  func(r *Reader) { r.Text(2) },
	}
	for want, fail := range fails {
		b := PutBytes(Put(nil, 4), []byte{0xff, 0xff})
		r := Read(join(b, PutText(nil, "ok")))
		if r.Number() != 4 {
			t.Fatal("the first number")
		}
		fail(r)
		left := r.Left()
		if r.Number() != 0 || r.Within(0, 9) != 0 || len(r.Bytes(9)) != 0 || r.Text(9) != "" {
			t.Errorf("%d: something is read behind it", want)
		}
		if left != 20 || r.Left() != 20 || r.Err() != want || r.End() != want {
			t.Errorf("%d: %d left, then %d; %d, %d", want, left, r.Left(), r.Err(), r.End())
		}
	}
}

func TestP22End(t *testing.T) {
	r := Read(Put(nil, 1, 2))
	if r.End() != api.ErrMore || r.Err() != api.OK {
		t.Error(r.End(), r.Err())
	}
	if r.Number() != 1 || r.End() != api.ErrMore || r.Number() != 2 || r.End() != api.OK {
		t.Error("End stands in the way", r.Err())
	}
	if r := Read(nil); r.End() != api.OK || r.Err() != api.OK || r.Left() != 0 {
		t.Error("no bytes")
	}
	if r.Number(); r.End() != api.ErrShort {
		t.Error("the error comes ahead", r.End())
	}
}

func TestP22ReadersThatReadDidNotMake(t *testing.T) {
	for name, r := range map[string]*Reader{"nil": nil, "plain": {}, "new": new(Reader)} {
		for range 2 {
			if r.Number() != 0 || r.Within(0, 9) != 0 || len(r.Bytes(9)) != 0 || r.Text(9) != "" || r.Left() != 0 {
				t.Errorf("%s: an answer", name)
			}
			if r.Err() != api.ErrNil || r.End() != api.ErrNil {
				t.Errorf("%s: %d, %d", name, r.Err(), r.End())
			}
		}
	}
}

func TestP23Open(t *testing.T) {
	for _, n := range lengths {
		data := pattern(n)
		b := sealed(t, data)
		for _, behind := range [][]byte{nil, {0}, b} {
			if got, size, e := Open(join(b, behind)); !bytes.Equal(got, data) || size != n+12 || e != api.OK {
				t.Errorf("a block of %d bytes: %d, %d, %d", n, len(got), size, e)
			}
		}
	}
	long := PutBytes(nil, pattern(api.MaxFrame+1))
	block := sealed(t, []byte("abc"))
	turned := bytes.Clone(block)
	turned[len(turned)-1] ^= 1
	for _, c := range []struct {
		b    []byte
		want api.Errno
	}{
		{nil, api.ErrShort},
		{bytes.Repeat([]byte{0xff}, 7), api.ErrShort},
		{bytes.Repeat([]byte{0xff}, 20), api.ErrRange},
		{long, api.ErrLong},
		{long[:8], api.ErrLong},
		{block[:len(block)-4], api.ErrShort},
		{block[:len(block)-1], api.ErrShort},
		{turned, api.ErrSum},
		{join(turned, block), api.ErrSum},
		{make([]byte, 12), api.ErrSum},
	} {
		if b, n, e := Open(c.b); len(b) != 0 || n != 0 || e != c.want {
			t.Errorf("%.20q: %d, %d, %d", c.b, len(b), n, e)
		}
	}
}

func TestP23All(t *testing.T) {
	parts := [][]byte{[]byte("abc"), nil, pattern(api.MaxFrame), []byte("abc")}
	var whole []byte
	for _, p := range parts {
		whole = append(whole, sealed(t, p)...)
	}
	turned := sealed(t, []byte("x"))
	turned[8] = 'y'
	next := sealed(t, []byte("z"))
	for _, behind := range [][]byte{nil, next[:12], turned, join(turned, next), bytes.Repeat([]byte{0xff}, 40), PutBytes(nil, pattern(api.MaxFrame+9))} {
		l, n := All(join(whole, behind))
		if n != len(whole) || len(l) != len(parts) {
			t.Errorf("%.20q behind: %d blocks, %d bytes", behind, len(l), n)
			continue
		}
		for i, p := range parts {
			if !bytes.Equal(l[i], p) {
				t.Errorf("%.20q behind: block %d", behind, i)
			}
		}
	}
	for _, b := range [][]byte{nil, {1}, turned, join(turned, next)} {
		if l, n := All(b); len(l) != 0 || n != 0 {
			t.Errorf("%q: %d, %d", b, len(l), n)
		}
	}
}

// All goes on from where a block ends: many of them must not cost their number squared.
func TestP23AllOfMany(t *testing.T) {
	const many = 200000
	if l, n := All(bytes.Repeat(sealed(t, []byte("abcd")), many)); len(l) != many || n != many*16 {
		t.Error(len(l), n)
	}
}

func TestP24ThereAndBack(t *testing.T) {
	numbers := []int{0, 1, 255, 256, 300, 1 << 31, 1 << 32, 1 << 62, math.MaxInt}
	texts := []string{"", "a", "é\U0001f600", "\x00\ufffd"}
	for _, behind := range []string{"", "\x00", "\xff\xff\xff\xff\xff\xff\xff\xff\xff"} {
		b := Put(nil, numbers...)
		for _, s := range texts {
			b = PutText(PutBytes(b, []byte(s+"\xff")), s)
		}
		r := Read(append(b, behind...))
		for _, n := range numbers {
			if got := r.Number(); got != n {
				t.Errorf("%d: %d", n, got)
			}
		}
		for _, s := range texts {
			if d, got := r.Bytes(99), r.Text(99); string(d) != s+"\xff" || got != s {
				t.Errorf("%q: %q, %q", s, d, got)
			}
		}
		if r.Left() != len(behind) || r.Err() != api.OK {
			t.Errorf("%d left, %d", r.Left(), r.Err())
		}
	}
}

// Bytes of many kinds, most of which can't be read: what can must be the form in which it is put.
func TestP25OneForm(t *testing.T) {
	var numbers, blobs, texts, blocks int
	for i := range 1 << 12 {
		b := join([]byte{byte(i >> 11 << 7), 0, 0, 0, 0, 0, byte(i >> 10 & 1), byte(i >> 4 & 63)}, bytes.Repeat([]byte("a\xc3\xa9b"), i&15))
		if i&1 == 1 {
			b = join(sealed(t, b), b)
			b[len(b)*i>>12] ^= byte(i >> 2 & 1)
		}
		r := Read(b)
		if n := r.Number(); r.Err() == api.OK {
			numbers++
			if !bytes.Equal(Put(nil, n), b[:8]) {
				t.Fatalf("%q: %d", b, n)
			}
		}
		r = Read(b)
		if d := r.Bytes(99); r.Err() == api.OK {
			blobs++
			if !bytes.Equal(PutBytes(nil, d), b[:len(b)-r.Left()]) {
				t.Fatalf("%q: %q", b, d)
			}
		}
		r = Read(b)
		if s := r.Text(99); r.Err() == api.OK {
			texts++
			if !bytes.Equal(PutText(nil, s), b[:len(b)-r.Left()]) {
				t.Fatalf("%q: %q", b, s)
			}
		}
		if d, n, e := Open(b); e == api.OK {
			blocks++
			if !bytes.Equal(sealed(t, d), b[:n]) {
				t.Fatalf("%q: %q", b, d)
			}
		}
	}
	if numbers == 0 || blobs == 0 || texts == 0 || blocks == 0 {
		t.Error("nothing was read", numbers, blobs, texts, blocks)
	}
}

func TestP26Turned(t *testing.T) {
	for _, data := range []string{"", "a", "sealskin", strings.Repeat("\x00", 40)} {
		block := sealed(t, []byte(data))
		for i := range block {
			for x := 1; x < 256; x++ {
				b := join(block, pattern(600))
				b[i] ^= byte(x)
				if _, n, e := Open(b); e == api.OK && n == len(block) {
					t.Fatalf("%q: byte %d, turned by %x, does not show", data, i, x)
				}
			}
		}
	}
}

func TestP27Cut(t *testing.T) {
	for _, n := range []int{0, 1, 40, api.MaxFrame} {
		b := sealed(t, pattern(n))
		step := max(1, len(b)/200)
		for end := 0; end < len(b); end += step {
			if d, size, e := Open(b[:end]); len(d) != 0 || size != 0 || e != api.ErrShort {
				t.Fatalf("%d of %d bytes: %d", end, len(b), e)
			}
		}
		if _, _, e := Open(b[:len(b)-1]); e != api.ErrShort {
			t.Fatalf("the last of %d bytes: %d", len(b), e)
		}
	}
}

func TestP28Order(t *testing.T) {
	rising := []int{0, 1, 127, 128, 255, 256, 65535, 65536, 1<<32 - 1, 1 << 32, 1 << 56, math.MaxInt - 1, math.MaxInt}
	for i, a := range rising {
		for _, b := range rising[i+1:] {
			if bytes.Compare(Put(nil, a), Put(nil, b)) >= 0 {
				t.Errorf("%d does not stand ahead of %d", a, b)
			}
		}
	}
}

// What is handed in stays as it is, the room behind its end too; what is answered is nobody else's.
func TestMemoryOfPuts(t *testing.T) {
	room := bytes.Repeat([]byte{7}, 99)
	puts := map[string]func(b []byte) []byte{
		"Put":         func(b []byte) []byte { return Put(b, 1, 2) },
		"Put of none": func(b []byte) []byte { return Put(b) },
		"PutBytes":    func(b []byte) []byte { return PutBytes(b, []byte("abc")) },
		"PutText":     func(b []byte) []byte { return PutText(b, "abc") },
	}
	for name, put := range puts {
		b := bytes.Clone(room)[:9]
		got := put(b)
		for i := range got[:cap(got)] {
			got[:cap(got)][i] = 1
		}
		if !bytes.Equal(b[:99], room) {
			t.Errorf("%s writes where it may not", name)
		}
	}
	data := bytes.Clone(room)[:9]
	got := sealed(t, data)
	got[8] = 1
	_ = append(got, 1, 2, 3)
	if !bytes.Equal(data[:99], room) {
		t.Error("Seal writes where it may not")
	}
}

func TestMemoryOfReads(t *testing.T) {
	b := PutBytes(nil, []byte("abc"))
	r := Read(b)
	b[8] = 'x'
	other := *r
	if d := r.Bytes(3); string(d) != "abc" {
		t.Errorf("the reader reads the caller's bytes: %q", d)
	} else {
		d[0] = 'y'
	}
	if d := other.Bytes(3); string(d) != "abc" {
		t.Errorf("an answer is the reader's own memory: %q", d)
	}
	block := join(sealed(t, []byte("abc")), sealed(t, []byte("def")))
	given := bytes.Clone(block)
	d, _, _ := Open(block)
	l, _ := All(block)
	for _, x := range [][]byte{d, l[0]} {
		for i := range x[:cap(x)] {
			x[:cap(x)][i] = '!'
		}
	}
	if !bytes.Equal(block, given) || string(l[1]) != "def" {
		t.Error("an answer shares memory")
	}
}

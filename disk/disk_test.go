package disk

import (
	"math"
	"math/rand"
	"strings"
	"testing"
	"time"

	"sealskin/api"
)

func fresh(t *testing.T, room int) *Disk {
	t.Helper()
	d, e := New(room)
	if e != api.OK || d == nil {
		t.Fatal(e)
	}
	return d
}

func want(t *testing.T, what string, got, want api.Errno) {
	t.Helper()
	if got != want {
		t.Fatalf("%s: %d, want %d", what, got, want)
	}
}

func (d *Disk) put(file int, s string) api.Errno { return d.Append(file, []byte(s)) }

// lies compares all files, and how many bytes they have, with what is wanted; the power must be on.
func lies(t *testing.T, d *Disk, files ...string) {
	t.Helper()
	used := 0
	for i := range api.Files {
		w := ""
		if i < len(files) {
			w = files[i]
		}
		used += len(w)
		if b, e := d.Read(i); string(b) != w || e != api.OK {
			t.Fatalf("file %d: %q, %d, want %q", i, b, e, w)
		}
	}
	if d.Used() != used {
		t.Fatalf("%d bytes, want %d", d.Used(), used)
	}
}

// isOff tells whether the power is off, by the call that changes nothing.
func isOff(d *Disk) bool {
	_, e := d.Read(0)
	return e == api.ErrDown
}

// model is a disk as the chapter tells it, byte by byte: what a disk must do.
type model struct {
	files [api.Files]string
	room  int
	off   bool
	fuse  int
}

func (m *model) used() int { return len(strings.Join(m.files[:], "")) }

func (m *model) burnt() bool {
	if m.fuse == 0 {
		return false
	}
	m.fuse--
	m.off = m.fuse == 0
	return m.off
}

func (m *model) check(file int) api.Errno {
	if m.off {
		return api.ErrDown
	}
	if file != 0 && file != 1 && file != 2 {
		return api.ErrFile
	}
	return api.OK
}

func (m *model) append(file int, s string) api.Errno {
	if e := m.check(file); e != api.OK {
		return e
	}
	if m.used()+len(s) > m.room {
		return api.ErrFull
	}
	for i := range len(s) {
		m.files[file] += s[i : i+1]
		if m.burnt() {
			return api.ErrDown
		}
	}
	return api.OK
}

func (m *model) wipe(file int) api.Errno {
	if e := m.check(file); e != api.OK {
		return e
	}
	m.files[file] = ""
	if m.burnt() {
		return api.ErrDown
	}
	return api.OK
}

func TestP51New(t *testing.T) {
	for _, room := range []int{math.MinInt, -1, 0, api.MaxRoom + 1, math.MaxInt} {
		if d, e := New(room); d != nil || e != api.ErrArg {
			t.Errorf("room for %d: %v, %d", room, d, e)
		}
	}
	for _, room := range []int{1, 2, api.MaxRoom - 1, api.MaxRoom} {
		d := fresh(t, room)
		lies(t, d)
		want(t, "all its room", d.Append(0, make([]byte, room)), api.OK)
		want(t, "more", d.put(1, "x"), api.ErrFull)
	}
}

func TestP51Append(t *testing.T) {
	d := fresh(t, 10)
	for _, s := range []string{"ab", "", "c"} {
		want(t, s, d.put(0, s), api.OK)
	}
	want(t, "another file", d.put(2, "\x00\xff"), api.OK)
	lies(t, d, "abc", "", "\x00\xff")
	want(t, "nil", d.Append(1, nil), api.OK)
	want(t, "one more than there is room", d.put(1, "123456"), api.ErrFull)
	lies(t, d, "abc", "", "\x00\xff")
	want(t, "the rest of the room", d.put(1, "12345"), api.OK)
	want(t, "a byte, where there is no room", d.put(0, "x"), api.ErrFull)
	want(t, "no byte, where there is no room", d.put(0, ""), api.OK)
	lies(t, d, "abc", "12345", "\x00\xff")
}

func TestP51NoSuchFile(t *testing.T) {
	d := fresh(t, 3)
	want(t, "full", d.put(1, "abc"), api.OK)
	for _, file := range []int{math.MinInt, -1, api.Files, api.Files + 1, math.MaxInt} {
		want(t, "Append", d.put(file, "x"), api.ErrFile)
		want(t, "Append of nothing", d.put(file, ""), api.ErrFile)
		want(t, "Wipe", d.Wipe(file), api.ErrFile)
		if b, e := d.Read(file); len(b) != 0 || e != api.ErrFile {
			t.Errorf("Read(%d): %q, %d", file, b, e)
		}
		lies(t, d, "", "abc")
	}
	d.Crash()
	want(t, "Append, off", d.put(9, "x"), api.ErrDown)
	want(t, "Wipe, off", d.Wipe(9), api.ErrDown)
	if b, e := d.Read(9); len(b) != 0 || e != api.ErrDown {
		t.Errorf("Read, off: %q, %d", b, e)
	}
}

func TestP51Wipe(t *testing.T) {
	d := fresh(t, 6)
	for i, s := range []string{"ab", "cd", "ef"} {
		want(t, s, d.put(i, s), api.OK)
	}
	want(t, "Wipe", d.Wipe(1), api.OK)
	lies(t, d, "ab", "", "ef")
	want(t, "Wipe of nothing", d.Wipe(1), api.OK)
	want(t, "the room is there again", d.put(1, "gh"), api.OK)
	want(t, "Wipe", d.Wipe(0), api.OK)
	want(t, "Wipe", d.Wipe(2), api.OK)
	lies(t, d, "", "gh")
}

func TestP51Off(t *testing.T) {
	d := fresh(t, 3)
	d.put(0, "ab")
	d.Crash()
	want(t, "Append", d.put(0, "c"), api.ErrDown)
	want(t, "Append of nothing", d.put(0, ""), api.ErrDown)
	want(t, "Append of too much", d.put(0, "cdef"), api.ErrDown)
	want(t, "Wipe", d.Wipe(0), api.ErrDown)
	if b, e := d.Read(0); len(b) != 0 || e != api.ErrDown || d.Used() != 2 {
		t.Errorf("%q, %d, %d bytes", b, e, d.Used())
	}
	want(t, "Start", d.Start(), api.OK)
	lies(t, d, "ab")
}

func TestP52Power(t *testing.T) {
	d := fresh(t, 9)
	want(t, "Start of what is on", d.Start(), api.OK)
	want(t, "Disarm without a fuse", d.Disarm(), api.OK)
	want(t, "Crash", d.Crash(), api.OK)
	want(t, "Crash, off", d.Crash(), api.ErrDown)
	want(t, "Arm, off", d.Arm(1), api.ErrDown)
	want(t, "Arm of nothing, off", d.Arm(0), api.ErrDown)
	want(t, "Disarm, off", d.Disarm(), api.ErrDown)
	want(t, "Start", d.Start(), api.OK)
	for _, n := range []int{math.MinInt, -1, 0} {
		want(t, "Arm", d.Arm(n), api.ErrArg)
	}
	want(t, "no fuse behind all that", d.put(0, "ab"), api.OK)
	want(t, "Wipe", d.Wipe(0), api.OK)
	want(t, "Arm", d.Arm(math.MaxInt), api.OK)
	want(t, "a long fuse", d.put(0, "abcdefghi"), api.OK)
}

func TestP52Fuse(t *testing.T) {
	for _, c := range []struct {
		what  string
		do    func(d *Disk) api.Errno
		last  api.Errno
		files []string
	}{
		{"the document's example", func(d *Disk) api.Errno { d.Arm(1); return d.put(0, "cd") }, api.ErrDown, []string{"abc", "x"}},
		{"the last byte of both", func(d *Disk) api.Errno { d.Arm(2); return d.put(0, "cd") }, api.ErrDown, []string{"abcd", "x"}},
		{"a byte is left", func(d *Disk) api.Errno { d.Arm(3); return d.put(0, "cd") }, api.OK, []string{"abcd", "x"}},
		{"burnt by two", func(d *Disk) api.Errno { d.Arm(3); d.put(1, "cd"); return d.put(0, "ef") }, api.ErrDown, []string{"abe", "xcd"}},
		{"nothing burns nothing", func(d *Disk) api.Errno { d.Arm(1); return d.put(0, "") }, api.OK, []string{"ab", "x"}},
		{"a Wipe is done", func(d *Disk) api.Errno { d.Arm(1); return d.Wipe(0) }, api.ErrDown, []string{"", "x"}},
		{"a Wipe of nothing", func(d *Disk) api.Errno { d.Arm(1); return d.Wipe(2) }, api.ErrDown, []string{"ab", "x"}},
		{"a Wipe burns one", func(d *Disk) api.Errno { d.Arm(2); return d.Wipe(0) }, api.OK, []string{"", "x"}},
		{"a Wipe, and a byte", func(d *Disk) api.Errno { d.Arm(2); d.Wipe(0); return d.put(0, "cd") }, api.ErrDown, []string{"c", "x"}},
		{"what is refused burns nothing", func(d *Disk) api.Errno { d.Arm(1); d.put(3, "c"); d.Wipe(3); return d.put(0, "123456789") }, api.ErrFull, []string{"ab", "x"}},
		{"Read burns nothing", func(d *Disk) api.Errno {
			d.Arm(1)
			d.Read(0)
			d.Used()
			d.Clone()
			_, e := d.Read(1)
			return e
		}, api.OK, []string{"ab", "x"}},
		{"in place of a shorter one", func(d *Disk) api.Errno { d.Arm(1); d.Arm(3); return d.put(0, "cd") }, api.OK, []string{"abcd", "x"}},
		{"in place of a longer one", func(d *Disk) api.Errno { d.Arm(3); d.Arm(1); return d.put(0, "cd") }, api.ErrDown, []string{"abc", "x"}},
		{"a wrong one is none", func(d *Disk) api.Errno { d.Arm(3); d.Arm(0); d.put(0, "cd"); return d.put(0, "ef") }, api.ErrDown, []string{"abcde", "x"}},
		{"Disarm", func(d *Disk) api.Errno { d.Arm(1); d.Disarm(); return d.put(0, "cd") }, api.OK, []string{"abcd", "x"}},
		{"Start leaves it", func(d *Disk) api.Errno { d.Arm(1); d.Start(); return d.put(0, "cd") }, api.ErrDown, []string{"abc", "x"}},
		{"Crash takes it", func(d *Disk) api.Errno { d.Arm(1); d.Crash(); d.Start(); return d.put(0, "cd") }, api.OK, []string{"abcd", "x"}},
	} {
		d := fresh(t, 9)
		d.put(0, "ab")
		d.put(1, "x")
		want(t, c.what, c.do(d), c.last)
		if isOff(d) != (c.last == api.ErrDown) {
			t.Errorf("%s: the power", c.what)
		}
		d.Start()
		lies(t, d, c.files...)
	}
}

// A fuse that is burnt is no more: behind a Start all goes on.
func TestP52FuseIsNoMore(t *testing.T) {
	d := fresh(t, 9)
	for range 2 {
		d.Arm(1)
		want(t, "the last byte", d.put(0, "ab"), api.ErrDown)
		want(t, "off", d.put(0, "ab"), api.ErrDown)
		d.Start()
	}
	want(t, "no fuse", d.put(0, "bcdefg"), api.OK)
	lies(t, d, "aabcdefg")
}

func TestP53Clone(t *testing.T) {
	d := fresh(t, 5)
	d.put(0, "ab")
	d.put(2, "c")
	c := d.Clone()
	lies(t, c, "ab", "", "c")
	want(t, "the clone", c.put(0, "xy"), api.OK)
	want(t, "the clone's room", c.put(0, "z"), api.ErrFull)
	lies(t, d, "ab", "", "c")
	want(t, "the disk", d.put(0, "12"), api.OK)
	d.Wipe(2)
	lies(t, c, "abxy", "", "c")
	lies(t, d, "ab12")
	c.Crash()
	if isOff(d) || !isOff(c) {
		t.Error("the power of one is the other's")
	}
	if off := c.Clone(); !isOff(off) || off.Used() != 5 || off.Start() != api.OK || !isOff(c) {
		t.Error("a clone of a disk whose power is off")
	}
	d.Arm(2)
	c = d.Clone()
	want(t, "the fuse of one", d.Wipe(1), api.OK)
	want(t, "the fuse of one", d.Wipe(1), api.ErrDown)
	want(t, "the fuse of the other", c.Wipe(1), api.OK)
	want(t, "the fuse of the other", c.Wipe(1), api.ErrDown)
}

func TestP53DisksThatNewDidNotMake(t *testing.T) {
	for name, d := range map[string]*Disk{"nil": nil, "plain": {}, "new": new(Disk)} {
		for range 2 {
			for what, e := range map[string]api.Errno{
				"Append": d.put(0, "a"), "Append of nothing": d.put(0, ""), "no file": d.put(9, "a"), "Wipe": d.Wipe(0), "Wipe of no file": d.Wipe(-1),
				"Crash": d.Crash(), "Arm": d.Arm(1), "Arm of nothing": d.Arm(0), "Disarm": d.Disarm(), "Start": d.Start(),
			} {
				want(t, name+", "+what, e, api.ErrNil)
			}
			if b, e := d.Read(0); len(b) != 0 || e != api.ErrNil || d.Used() != 0 || d.Clone() != nil {
				t.Errorf("%s: %q, %d, %d bytes", name, b, e, d.Used())
			}
		}
	}
}

// Each place where the power may go, in each of some lengths.
func TestP54Beginnings(t *testing.T) {
	const s = "0123456789"
	for n := range len(s) + 1 {
		for fuse := 1; fuse <= len(s)+1; fuse++ {
			d := fresh(t, 99)
			d.put(0, "ab")
			d.put(1, "cd")
			d.Arm(fuse)
			last, written := api.OK, n
			if fuse <= n {
				last, written = api.ErrDown, fuse
			}
			want(t, "Append", d.put(1, s[:n]), last)
			d.Start()
			lies(t, d, "ab", "cd"+s[:written])
		}
	}
}

// A fuse is as long over several calls as in one.
func TestP56Burnt(t *testing.T) {
	for fuse := 1; fuse < 40; fuse++ {
		for piece := 1; piece < 7; piece++ {
			d := fresh(t, 99)
			d.Arm(fuse)
			calls := 0
			for d.put(calls%api.Files, "abcdefg"[:piece]) == api.OK {
				calls++
			}
			if !isOff(d) || d.Used() != fuse || calls != (fuse-1)/piece {
				t.Fatalf("a fuse of %d, pieces of %d: %d bytes, %d calls", fuse, piece, d.Used(), calls)
			}
		}
	}
}

// Anything in any order is as the model does it; never is there more than there is room (P5.5).
func TestP55AsTheModel(t *testing.T) {
	r := rand.New(rand.NewSource(5))
	for range 300 {
		room := 1 + r.Intn(40)
		d, m := fresh(t, room), &model{room: room}
		for range 100 {
			step(t, r, d, m)
			if d.Used() != m.used() || d.Used() > room {
				t.Fatalf("%d bytes, want %d, room for %d", d.Used(), m.used(), room)
			}
			if isOff(d) != m.off {
				t.Fatalf("off: %t", isOff(d))
			}
			if !m.off {
				lies(t, d, m.files[:]...)
			}
			if r.Intn(20) == 0 {
				d = d.Clone()
			}
		}
	}
}

func step(t *testing.T, r *rand.Rand, d *Disk, m *model) {
	t.Helper()
	file := r.Intn(api.Files+2) - 1
	down := api.OK
	if m.off {
		down = api.ErrDown
	}
	switch r.Intn(9) {
	case 0, 1, 2, 3:
		s := "abcdefghijklmnopqrstuvwxyz"[:r.Intn(12)]
		want(t, "Append", d.put(file, s), m.append(file, s))
	case 4:
		want(t, "Wipe", d.Wipe(file), m.wipe(file))
	case 5:
		want(t, "Disarm", d.Disarm(), down)
		m.fuse = 0
	case 6:
		n := r.Intn(20)
		if n == 0 && !m.off {
			down = api.ErrArg
		}
		want(t, "Arm", d.Arm(n), down)
		if down == api.OK {
			m.fuse = n
		}
	case 7:
		if r.Intn(4) == 0 {
			want(t, "Crash", d.Crash(), down)
			m.off, m.fuse = true, 0
		}
	case 8:
		want(t, "Start", d.Start(), api.OK)
		m.off = false
	}
}

func TestMemory(t *testing.T) {
	d := fresh(t, 99)
	b := []byte("abcdef")
	d.Append(0, b[:2])
	d.Append(0, b[2:4])
	d.Arm(1)
	d.Append(0, b[4:])
	d.Start()
	if string(b) != "abcdef" {
		t.Errorf("what is handed in is changed: %q", b)
	}
	b[0], b[4] = 'x', 'x'
	lies(t, d, "abcde")
	one, _ := d.Read(0)
	two, _ := d.Read(0)
	one[0] = 'y'
	_ = append(one, "zzz"...)
	d.put(0, "f")
	lies(t, d, "abcdef")
	if string(two) != "abcde" {
		t.Errorf("%q", two)
	}
}

// Bytes that come one by one fill the greatest disk in a moment.
func TestManyAppends(t *testing.T) {
	begin := time.Now()
	d := fresh(t, api.MaxRoom)
	b := []byte("12345678")
	for range api.MaxRoom / len(b) {
		want(t, "Append", d.Append(1, b), api.OK)
	}
	want(t, "full", d.Append(0, b[:1]), api.ErrFull)
	if took := time.Since(begin); took > 20*time.Second {
		t.Error(took)
	}
}

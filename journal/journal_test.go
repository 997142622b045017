package journal

import (
	"bytes"
	"math"
	"math/rand"
	"strings"
	"testing"
	"time"

	"sealskin/api"
	"sealskin/disk"
	"sealskin/octet"
)

// entry is a record as a test tells it.
type entry struct {
	label int
	data  string
}

const most = 16320 // bytes of a record

func fresh(t *testing.T, room int) *disk.Disk {
	t.Helper()
	d, e := disk.New(room)
	if e != api.OK {
		t.Fatal(e)
	}
	return d
}

func opened(t *testing.T, d *disk.Disk) *Journal {
	t.Helper()
	j, e := Open(d)
	if e != api.OK || j == nil {
		t.Fatal("Open:", e)
	}
	return j
}

func want(t *testing.T, what string, got, want api.Errno) {
	t.Helper()
	if got != want {
		t.Fatalf("%s: %d, want %d", what, got, want)
	}
}

func (j *Journal) put(x entry) api.Errno { return j.Put(x.label, []byte(x.data)) }

func putAll(t *testing.T, j *Journal, l ...entry) {
	t.Helper()
	for _, x := range l {
		want(t, "Put", j.put(x), api.OK)
	}
}

// holds compares all that a journal tells with a plain list, at every place and some beyond.
func holds(t *testing.T, j *Journal, l ...entry) {
	t.Helper()
	if j.Len() != len(l) {
		t.Fatalf("%d records, want %d", j.Len(), len(l))
	}
	for i, x := range l {
		if label, b, ok := j.At(i); label != x.label || string(b) != x.data || !ok {
			t.Fatalf("record %d: %d, %.20q, %t, want %d, %.20q", i, label, b, ok, x.label, x.data)
		}
	}
	for _, i := range []int{math.MinInt, -1, len(l), len(l) + 1, math.MaxInt} {
		if label, b, ok := j.At(i); label != 0 || len(b) != 0 || ok {
			t.Fatalf("record %d: %d, %.20q, %t", i, label, b, ok)
		}
	}
	for label := -1; label <= api.MaxLabels; label++ {
		n := 0
		for _, x := range l {
			if x.label == label {
				n += len(x.data)
			}
		}
		if j.Bytes(label) != n {
			t.Fatalf("label %d has %d bytes, want %d", label, j.Bytes(label), n)
		}
	}
}

// block is a block of pieces.
func block(l ...[]byte) []byte {
	b, e := octet.Seal(bytes.Join(l, nil))
	if e != api.OK {
		panic(e)
	}
	return b
}

func numbers(l ...int) []byte { return octet.Put(nil, l...) }

// begin is a file's first block.
func begin(generation, records int) []byte { return block(numbers(generation, records)) }

func recordBlock(number, label int, data string) []byte {
	return block(numbers(number, label), octet.PutText(nil, data))
}

// entries is records' blocks, with the numbers from one on.
func entries(from int, l ...entry) []byte {
	var b []byte
	for i, x := range l {
		b = append(b, recordBlock(from+i, x.label, x.data)...)
	}
	return b
}

func join(l ...[]byte) []byte { return bytes.Join(l, nil) }

// laid is a disk on which lie these files.
func laid(t *testing.T, files ...[]byte) *disk.Disk {
	t.Helper()
	d := fresh(t, 1<<17)
	for i, b := range files {
		want(t, "laid", d.Append(i, b), api.OK)
	}
	return d
}

// lies compares all files with what is wanted.
func lies(t *testing.T, d *disk.Disk, files ...[]byte) {
	t.Helper()
	for i := range api.Files {
		var w []byte
		if i < len(files) {
			w = files[i]
		}
		if b, e := d.Read(i); !bytes.Equal(b, w) || e != api.OK {
			t.Fatalf("file %d: %d\n%x, want\n%x", i, e, b, w)
		}
	}
}

var (
	three = []entry{{0, "a"}, {3, "bc"}, {31, ""}}
	more  = []entry{{3, "def"}, {0, "\x00\xff"}}
	five  = append(append([]entry{}, three...), more...)
)

func TestP61OfAnEmptyDisk(t *testing.T) {
	d := fresh(t, 1<<16)
	j := opened(t, d)
	holds(t, j)
	lies(t, d, begin(1, 0), begin(1, 0))
	putAll(t, j, entry{0, "a"}, entry{3, "bc"})
	d.Arm(5)
	want(t, "Put", j.Put(0, []byte("d")), api.ErrDown)
	d.Start()
	holds(t, opened(t, d), entry{0, "a"}, entry{3, "bc"})
}

func TestP61OpenErrors(t *testing.T) {
	off := fresh(t, 99)
	off.Crash()
	for _, c := range []struct {
		d    *disk.Disk
		want api.Errno
	}{
		{nil, api.ErrNil},
		{&disk.Disk{}, api.ErrNil},
		{off, api.ErrDown},
		{fresh(t, 1), api.ErrFull},
		{fresh(t, 2*len(begin(1, 0))-1), api.ErrFull},
	} {
		for range 2 {
			if j, e := Open(c.d); j != nil || e != c.want {
				t.Errorf("%v, %d, want %d", j, e, c.want)
			}
		}
	}
	opened(t, fresh(t, 2*len(begin(1, 0))))
}

// Which of both checkpoints counts: it is told by the file that a Check then leaves alone.
func TestP61WhichCheckpoint(t *testing.T) {
	one, two := join(begin(4, 1), entries(0, entry{1, "one"})), join(begin(5, 1), entries(0, entry{2, "two"}))
	last, first := join(begin(api.MaxIndex-1, 1), entries(0, entry{2, "last"})), join(begin(1, 0))
	for _, c := range []struct {
		what       string
		one, two   []byte
		records    []entry
		generation int
		other      int
	}{
		{"the second one", one, two, []entry{{2, "two"}}, 5, 1},
		{"the first one", two, one, []entry{{2, "two"}}, 5, 2},
		{"of both the first one", join(begin(4, 1), entries(0, entry{7, "other"})), one, []entry{{7, "other"}}, 4, 2},
		{"one alone", one, nil, []entry{{1, "one"}}, 4, 2},
		{"two alone", nil, one, []entry{{1, "one"}}, 4, 1},
		{"a far one", first, last, []entry{{2, "last"}}, api.MaxIndex - 1, 1},
		{"none", nil, nil, nil, 0, 1},
		{"the greater one is cut", one, two[:len(two)-1], []entry{{1, "one"}}, 4, 2},
	} {
		d := laid(t, nil, c.one, c.two)
		j := opened(t, d)
		holds(t, j, c.records...)
		files := [api.Files][]byte{begin(c.generation+1, len(c.records)), c.one, c.two}
		files[c.other] = join(files[0], entries(0, c.records...))
		t.Log(c.what)
		lies(t, d, files[:]...)
	}
}

// What is no checkpoint has no say, whatever generation it tells.
func TestP61NoCheckpoint(t *testing.T) {
	good := join(begin(9, 3), entries(0, three...))
	turned := bytes.Clone(good)
	turned[len(turned)-40] ^= 1
	for what, b := range map[string][]byte{
		"no bytes":                nil,
		"a byte more":             join(good, []byte{0}),
		"a byte less":             good[:len(good)-1],
		"a byte turned":           turned,
		"a byte ahead":            join([]byte{0}, good),
		"fewer than it says":      join(begin(9, 4), entries(0, three...)),
		"more than it says":       join(begin(9, 2), entries(0, three...)),
		"numbers from 1 on":       join(begin(9, 3), entries(1, three...)),
		"numbers with a gap":      join(begin(9, 2), entries(0, three[0]), entries(2, three[1])),
		"a number twice":          join(begin(9, 2), entries(0, three[0]), entries(0, three[1])),
		"no first block":          entries(0, three...),
		"two first blocks":        join(begin(9, 1), begin(9, 1)),
		"a generation of 0":       join(begin(0, 3), entries(0, three...)),
		"a generation too far":    join(begin(api.MaxIndex+1, 3), entries(0, three...)),
		"too many records":        begin(9, api.MaxIndex+1),
		"as many as there may be": begin(9, api.MaxIndex),
		"one number":              block(numbers(9)),
		"three numbers":           block(numbers(9, 0, 0)),
		"a byte behind":           block(numbers(9, 0), []byte{0}),
		"an empty block":          block(),
		"another block at last":   join(begin(9, 3), entries(0, three...), block()),
		"label 32":                join(begin(9, 1), recordBlock(0, 32, "a")),
		"a label above all":       join(begin(9, 1), block(numbers(0), []byte("\xff\xff\xff\xff\xff\xff\xff\xff"), octet.PutText(nil, "a"))),
		"a record too long":       join(begin(9, 1), recordBlock(0, 0, strings.Repeat("a", most+1))),
		"a record's byte more":    join(begin(9, 1), block(numbers(0, 0, 1), []byte("ab"))),
		"a record's byte less":    join(begin(9, 1), block(numbers(0, 0, 2), []byte("a"))),
		"a record without bytes":  join(begin(9, 1), block(numbers(0, 0))),
	} {
		t.Log(what)
		old := join(begin(2, 1), entries(0, entry{5, "old"}))
		d := laid(t, begin(2, 1), old, b)
		holds(t, opened(t, d), entry{5, "old"})
		lies(t, d, begin(2, 1), old, b)
		d = laid(t, begin(2, 1), b, old)
		holds(t, opened(t, d), entry{5, "old"})
		d = laid(t, nil, nil, b)
		holds(t, opened(t, d))
		lies(t, d, begin(1, 0), begin(1, 0), b)
	}
	d := laid(t, begin(9, 1), nil, join(begin(9, 1), recordBlock(0, 31, strings.Repeat("a", most))))
	holds(t, opened(t, d), entry{31, strings.Repeat("a", most)})
}

// What is taken of file 0, and whether all is checked then.
func TestP61FileNought(t *testing.T) {
	torn := recordBlock(3, 1, "torn")
	turned := bytes.Clone(torn)
	turned[30] ^= 1
	for what, c := range map[string]struct {
		file    []byte
		taken   int // how many of more
		checked bool
	}{
		"none":                    {begin(7, 3), 0, false},
		"one":                     {join(begin(7, 3), entries(3, more[:1]...)), 1, false},
		"two":                     {join(begin(7, 3), entries(3, more...)), 2, false},
		"no bytes":                {nil, 0, true},
		"a cut first block":       {begin(7, 3)[:9], 0, true},
		"no first block":          {entries(3, more...), 0, true},
		"an older generation":     {join(begin(6, 3), entries(3, more...)), 0, true},
		"a newer generation":      {join(begin(8, 3), entries(3, more...)), 0, true},
		"fewer records":           {join(begin(7, 2), entries(3, more...)), 0, true},
		"fewer, and numbers so":   {join(begin(7, 2), entries(2, more...)), 0, true},
		"more records":            {join(begin(7, 4), entries(4, more...)), 0, true},
		"numbers from 0 on":       {join(begin(7, 3), entries(0, more...)), 0, true},
		"a gap":                   {join(begin(7, 3), entries(3, more[0]), entries(5, more[1])), 1, true},
		"a number twice":          {join(begin(7, 3), entries(3, more[0]), entries(3, more[1])), 1, true},
		"a cut block":             {join(begin(7, 3), entries(3, more...), torn[:len(torn)-1]), 2, true},
		"a byte":                  {join(begin(7, 3), entries(3, more...), []byte{0}), 2, true},
		"a turned block between":  {join(begin(7, 3), turned, entries(3, more...)), 0, true},
		"a turned block":          {join(begin(7, 3), entries(3, more...), turned), 2, true},
		"a first block once more": {join(begin(7, 3), entries(3, more[0]), begin(7, 4), entries(4, more[1])), 1, true},
		"label 32":                {join(begin(7, 3), entries(3, more...), recordBlock(5, 32, "a")), 2, true},
		"too long":                {join(begin(7, 3), entries(3, more...), recordBlock(5, 0, strings.Repeat("a", most+1))), 2, true},
		"three numbers":           {join(block(numbers(7, 3, 3)), entries(3, more...)), 0, true},
	} {
		t.Log(what)
		point := join(begin(7, 3), entries(0, three...))
		d := laid(t, c.file, nil, point)
		j := opened(t, d)
		all := five[:3+c.taken]
		holds(t, j, all...)
		if c.checked {
			lies(t, d, begin(8, len(all)), join(begin(8, len(all)), entries(0, all...)), point)
		} else {
			lies(t, d, c.file, nil, point)
		}
		putAll(t, j, entry{9, "next"})
		holds(t, opened(t, d), append(append([]entry{}, all...), entry{9, "next"})...)
	}
}

// Without a checkpoint nothing of file 0 counts.
func TestP61FileNoughtAlone(t *testing.T) {
	for _, first := range [][]byte{begin(1, 0), begin(0, 0), nil} {
		d := laid(t, join(first, entries(0, three...)))
		holds(t, opened(t, d))
		lies(t, d, begin(1, 0), begin(1, 0))
	}
}

func TestP61CheckedInVain(t *testing.T) {
	point := join(begin(7, 3), entries(0, three...))
	d := laid(t, nil, point, []byte("rest"))
	d.Arm(1)
	if j, e := Open(d); j != nil || e != api.ErrDown {
		t.Error(j, e)
	}
	d.Start()
	lies(t, d, nil, point)
	full := fresh(t, 2*len(point)-1)
	full.Append(1, point)
	full.Append(2, []byte("rest"))
	if j, e := Open(full); j != nil || e != api.ErrFull {
		t.Error(j, e)
	}
	lies(t, full, nil, point)
}

func TestP62Put(t *testing.T) {
	d := fresh(t, 1<<17)
	j := opened(t, d)
	var l []entry
	for _, x := range []entry{{0, "a"}, {31, "bc"}, {0, ""}, {7, strings.Repeat("\xff", most)}, {0, "\x00"}} {
		putAll(t, j, x)
		l = append(l, x)
		holds(t, j, l...)
		lies(t, d, join(begin(1, 0), entries(0, l...)), begin(1, 0))
	}
	want(t, "nil", j.Put(4, nil), api.OK)
	holds(t, j, append(l, entry{4, ""})...)
}

func TestP62PutErrors(t *testing.T) {
	d := fresh(t, 20000)
	j := opened(t, d)
	putAll(t, j, three...)
	was := [][]byte{join(begin(1, 0), entries(0, three...)), begin(1, 0)}
	long := make([]byte, most+1)
	for _, label := range []int{math.MinInt, -1, 32, math.MaxInt} {
		want(t, "label", j.Put(label, nil), api.ErrLabel)
		want(t, "label ahead of length", j.Put(label, long), api.ErrLabel)
	}
	for _, n := range []int{most + 1, api.MaxFrame, 1 << 20} {
		want(t, "length", j.Put(0, make([]byte, n)), api.ErrLong)
	}
	holds(t, j, three...)
	lies(t, d, was...)
	putAll(t, j, entry{0, string(long[:most])})
	want(t, "no room", j.Put(0, long[:most]), api.ErrFull)
	want(t, "length ahead of room", j.Put(0, long), api.ErrLong)
	holds(t, j, append(append([]entry{}, three...), entry{0, string(long[:most])})...)
	d.Crash()
	want(t, "off", j.Put(0, nil), api.ErrDown)
	want(t, "label ahead of the power", j.Put(32, nil), api.ErrLabel)
	want(t, "length ahead of the power", j.Put(0, long), api.ErrLong)
	if j.Len() != 4 || j.Bytes(3) != 2 {
		t.Error("what there is, is told without the power")
	}
	if label, b, ok := j.At(1); label != 3 || string(b) != "bc" || !ok {
		t.Error(label, b, ok)
	}
}

func TestP63Check(t *testing.T) {
	d := fresh(t, 1<<16)
	j := opened(t, d)
	putAll(t, j, three...)
	want(t, "Check", j.Check(), api.OK)
	point := join(begin(2, 3), entries(0, three...))
	lies(t, d, begin(2, 3), begin(1, 0), point)
	putAll(t, j, more...)
	lies(t, d, join(begin(2, 3), entries(3, more...)), begin(1, 0), point)
	want(t, "Check", j.Check(), api.OK)
	lies(t, d, begin(3, 5), join(begin(3, 5), entries(0, five...)), point)
	want(t, "Check", j.Check(), api.OK)
	lies(t, d, begin(4, 5), join(begin(3, 5), entries(0, five...)), join(begin(4, 5), entries(0, five...)))
	holds(t, j, five...)
	holds(t, opened(t, d), five...)
	d.Crash()
	want(t, "off", j.Check(), api.ErrDown)
	holds(t, j, five...)
}

// With each length of a fuse just so many bytes of all that a Check writes are written, in its order.
func TestP63InOrder(t *testing.T) {
	point, next := join(begin(1, 3), entries(0, three...)), join(begin(2, 5), entries(0, five...))
	file := join(begin(1, 3), entries(3, more...))
	rest := []byte("rest")
	total := 2 + len(next) + len(begin(2, 5))
	for fuse := 1; fuse <= total+1; fuse++ {
		d := laid(t, file, point, rest)
		j := opened(t, d)
		d.Arm(fuse)
		last := api.ErrDown
		if fuse > total {
			last = api.OK
		}
		want(t, "Check", j.Check(), last)
		d.Start()
		d.Disarm()
		holds(t, j, five...)
		left := fuse - 1
		n := min(left, len(next))
		left -= n
		if left == 0 {
			lies(t, d, file, point, next[:n])
			continue
		}
		lies(t, d, begin(2, 5)[:min(left-1, len(begin(2, 5)))], point, next)
	}
}

// When the checkpoint is there, it counts, even if the rest of the Check fails: the next one goes to the other file.
func TestP63CountsThen(t *testing.T) {
	d := fresh(t, 1<<16)
	j := opened(t, d)
	putAll(t, j, three...)
	next := join(begin(2, 3), entries(0, three...))
	d.Arm(1 + len(next) + 1)
	want(t, "Check", j.Check(), api.ErrDown)
	d.Start()
	lies(t, d, nil, begin(1, 0), next)
	want(t, "Check", j.Check(), api.OK)
	lies(t, d, begin(3, 3), join(begin(3, 3), entries(0, three...)), next)

	d.Arm(1 + len(next))
	want(t, "Check", j.Check(), api.ErrDown)
	d.Start()
	want(t, "it did not count", j.Check(), api.OK)
	lies(t, d, begin(4, 3), join(begin(3, 3), entries(0, three...)), join(begin(4, 3), entries(0, three...)))
}

func TestP63Full(t *testing.T) {
	all := join(begin(1, 0), entries(0, five...))
	d := fresh(t, len(begin(1, 0))+2*len(all)-1)
	j := opened(t, d)
	putAll(t, j, five...)
	want(t, "the other file", d.Append(2, []byte("rest")), api.OK)
	want(t, "Check", j.Check(), api.ErrFull)
	holds(t, j, five...)
	lies(t, d, all, begin(1, 0))
	holds(t, opened(t, d), five...)
	lies(t, d, all, begin(1, 0))
	putAll(t, j, entry{1, "x"})
	holds(t, opened(t, d), append(append([]entry{}, five...), entry{1, "x"})...)

	d = fresh(t, len(begin(1, 0))+2*len(all))
	j = opened(t, d)
	putAll(t, j, five...)
	want(t, "just enough room", j.Check(), api.OK)
	holds(t, opened(t, d), five...)
}

func TestP63LastGeneration(t *testing.T) {
	point := join(begin(api.MaxIndex-1, 3), entries(0, three...))
	d := laid(t, join(begin(api.MaxIndex-1, 3), entries(3, more...)), point)
	j := opened(t, d)
	want(t, "the last one", j.Check(), api.OK)
	was := [][]byte{begin(api.MaxIndex, 5), point, join(begin(api.MaxIndex, 5), entries(0, five...))}
	lies(t, d, was...)
	want(t, "one more", j.Check(), api.ErrRange)
	holds(t, j, five...)
	lies(t, d, was...)
	j = opened(t, d)
	want(t, "one more", j.Check(), api.ErrRange)
	putAll(t, j, entry{1, "x"})
	holds(t, opened(t, d), append(append([]entry{}, five...), entry{1, "x"})...)
	d.Append(0, []byte("rest"))
	if j, e := Open(d); j != nil || e != api.ErrRange {
		t.Error(j, e)
	}
	d.Crash()
	want(t, "ahead of the power", j.Check(), api.ErrRange)
}

func TestP63JournalsThatOpenDidNotMake(t *testing.T) {
	for name, j := range map[string]*Journal{"nil": nil, "plain": {}, "new": new(Journal)} {
		for range 2 {
			want(t, name, j.Put(0, []byte("a")), api.ErrNil)
			want(t, name, j.Put(-1, make([]byte, most+1)), api.ErrNil)
			want(t, name, j.Check(), api.ErrNil)
			holds(t, j)
		}
	}
}

// play puts and checks till something fails; it answers what was put, and what was being put.
func play(j *Journal) (done, perhaps []entry) {
	for i, x := range []entry{{0, "a"}, {1, "bc"}, {-1, ""}, {2, ""}, {-1, ""}, {0, "def"}, {3, "g"}, {-1, ""}, {0, "hi"}} {
		if x.label < 0 {
			if j.Check() != api.OK {
				return done, nil
			}
			continue
		}
		if x.data += string(rune('0' + i)); j.put(x) != api.OK {
			return done, []entry{x}
		}
		done = append(done, x)
	}
	return done, nil
}

// keeps holds a journal against what was put for sure, and what perhaps was; it answers which it is.
func keeps(t *testing.T, j *Journal, done, perhaps []entry) []entry {
	t.Helper()
	if j.Len() == len(done)+len(perhaps) {
		done = append(append([]entry{}, done...), perhaps...)
	}
	holds(t, j, done...)
	return done
}

// The power goes behind each byte of a play, and then behind each byte of what Open writes, over and over.
func TestP64Kept(t *testing.T) {
	for fuse := 1; ; fuse++ {
		d := fresh(t, 1<<12)
		j := opened(t, d)
		d.Arm(fuse)
		done, perhaps := play(j)
		if d.Disarm() == api.OK {
			break
		}
		d.Start()
		again := d.Clone()
		done = keeps(t, opened(t, again), done, perhaps)
		for each := 1; ; each++ {
			crashed := d.Clone()
			crashed.Arm(each)
			_, e := Open(crashed)
			crashed.Start()
			crashed.Disarm()
			j := opened(t, crashed)
			holds(t, j, done...)
			putAll(t, j, entry{5, "next"})
			holds(t, opened(t, crashed), append(append([]entry{}, done...), entry{5, "next"})...)
			if e == api.OK {
				break
			}
		}
	}
}

// Crash upon crash on one disk, at any place, with anything between.
func TestP64CrashUponCrash(t *testing.T) {
	r := rand.New(rand.NewSource(6))
	for range 40 {
		d := fresh(t, 1<<13)
		var done, perhaps []entry
		for range 60 {
			if r.Intn(3) == 0 {
				d.Arm(1 + r.Intn(300))
				Open(d)
				d.Start()
				d.Disarm()
			}
			j, e := Open(d)
			if e == api.ErrFull {
				break
			}
			want(t, "Open", e, api.OK)
			done = keeps(t, j, done, perhaps)
			d.Arm(1 + r.Intn(500))
			done, perhaps = scribble(r, j, done)
			d.Start()
			d.Disarm()
		}
	}
}

// scribble puts and checks at random, till the power goes or it is enough.
func scribble(r *rand.Rand, j *Journal, done []entry) (all, perhaps []entry) {
	for range r.Intn(20) {
		if r.Intn(6) == 0 {
			if j.Check() == api.ErrDown {
				return done, nil
			}
			continue
		}
		x := entry{r.Intn(api.MaxLabels), strings.Repeat("x", r.Intn(20))}
		switch j.put(x) {
		case api.OK:
			done = append(done, x)
		case api.ErrDown:
			return done, []entry{x}
		}
	}
	return done, nil
}

func TestP65Again(t *testing.T) {
	point := join(begin(7, 3), entries(0, three...))
	for _, file := range [][]byte{
		nil, begin(7, 3), begin(6, 3), []byte("rest"),
		join(begin(7, 3), entries(3, more...)),
		join(begin(7, 3), entries(3, more...), []byte("rest")),
	} {
		d := laid(t, file, point, []byte("rest"))
		one := opened(t, d)
		after := d.Clone()
		two := opened(t, d)
		for i := range api.Files {
			a, _ := after.Read(i)
			b, _ := d.Read(i)
			if !bytes.Equal(a, b) {
				t.Errorf("file %d is another one", i)
			}
		}
		all := five[:one.Len()]
		holds(t, one, all...)
		holds(t, two, all...)
	}
}

func TestP66Counts(t *testing.T) {
	r := rand.New(rand.NewSource(66))
	d := fresh(t, 1<<16)
	j := opened(t, d)
	var l []entry
	for range 300 {
		x := entry{r.Intn(api.MaxLabels), strings.Repeat("y", r.Intn(50))}
		putAll(t, j, x)
		l = append(l, x)
		if r.Intn(30) == 0 {
			want(t, "Check", j.Check(), api.OK)
		}
		if r.Intn(30) == 0 {
			j = opened(t, d)
		}
		holds(t, j, l...)
	}
}

// A Check changes no record, wherever the power goes in it: neither in the journal nor on the disk.
func TestP67Checked(t *testing.T) {
	for fuse := 1; ; fuse++ {
		d := fresh(t, 1<<12)
		j := opened(t, d)
		putAll(t, j, three...)
		want(t, "Check", j.Check(), api.OK)
		putAll(t, j, more...)
		d.Arm(fuse)
		e := j.Check()
		holds(t, j, five...)
		d.Start()
		d.Disarm()
		holds(t, opened(t, d), five...)
		if e == api.OK {
			break
		}
	}
}

func TestMemory(t *testing.T) {
	d := fresh(t, 1<<12)
	j := opened(t, d)
	data := []byte("abcdef")
	want(t, "Put", j.Put(1, data[:3]), api.OK)
	if string(data) != "abcdef" {
		t.Errorf("what is handed in is changed: %q", data)
	}
	data[0] = 'x'
	_, one, _ := j.At(0)
	one[1] = 'y'
	_ = append(one, "zz"...)
	putAll(t, j, entry{1, "next"})
	holds(t, j, entry{1, "abc"}, entry{1, "next"})
	want(t, "Check", j.Check(), api.OK)
	holds(t, opened(t, d), entry{1, "abc"}, entry{1, "next"})
	far := opened(t, d.Clone())
	putAll(t, far, entry{2, "far"})
	holds(t, j, entry{1, "abc"}, entry{1, "next"})
}

// Many small records are put, checked and opened in a moment.
func TestMany(t *testing.T) {
	start := time.Now()
	d := fresh(t, api.MaxRoom)
	j := opened(t, d)
	const n = 100000
	for i := range n {
		want(t, "Put", j.Put(i%api.MaxLabels, numbers(i)), api.OK)
	}
	want(t, "Check", j.Check(), api.OK)
	j = opened(t, d)
	if label, b, ok := j.At(n - 1); j.Len() != n || j.Bytes(0) != n/api.MaxLabels*8 || label != (n-1)%api.MaxLabels || !bytes.Equal(b, numbers(n-1)) || !ok {
		t.Error(j.Len(), j.Bytes(0), label, b, ok)
	}
	if took := time.Since(start); took > 20*time.Second {
		t.Error(took)
	}
}

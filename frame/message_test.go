package frame

import (
	"bytes"
	"encoding/binary"
	"math"
	"math/rand"
	"reflect"
	"strings"
	"testing"
	"unicode/utf8"

	"sealskin/api"
	"sealskin/edit"
	"sealskin/octet"
)

func keep(n int) api.Part { return api.Part{Kind: api.Keep, N: n} }

func drop(n int) api.Part { return api.Part{Kind: api.Drop, N: n} }

func put(s string) api.Part {
	return api.Part{Kind: api.Put, N: utf8.RuneCountInString(s), Text: s}
}

// turns is an edit of so many parts: by turns one code point is kept, and one dropped.
func turns(n int) []api.Part {
	var e []api.Part
	for i := range n {
		e = append(e, api.Part{Kind: api.Keep + 2*(i%2), N: 1})
	}
	return e
}

// puts is an edit that puts so many code points, one at a place.
func puts(n int, s string) []api.Part {
	var e []api.Part
	for range n {
		e = append(e, keep(1), put(s))
	}
	return e
}

// heaviest is a light edit that no other one has more bytes than.
func heaviest() []api.Part {
	e := puts(api.MaxParts/2, "\U0001f600")
	e[1] = put(strings.Repeat("\U0001f600", api.MaxText-api.MaxParts/2+1))
	return e
}

func TestP131Light(t *testing.T) {
	long := strings.Repeat("é", api.MaxText)
	for name, c := range map[string]struct {
		e    []api.Part
		want bool
	}{
		"none":                      {nil, true},
		"empty":                     {[]api.Part{}, true},
		"one":                       {[]api.Part{keep(1)}, true},
		"all kinds":                 {[]api.Part{keep(2), put("é\U0001f600"), drop(1), keep(1)}, true},
		"400 parts":                 {turns(api.MaxParts), true},
		"401 parts":                 {turns(api.MaxParts + 1), false},
		"many parts":                {turns(1 << 16), false},
		"256 put":                   {[]api.Part{put(long)}, true},
		"257 put":                   {[]api.Part{put(long + "a")}, false},
		"256 put in two":            {[]api.Part{put(long[2:]), keep(1), put("a")}, true},
		"257 put in two":            {[]api.Part{put(long), keep(1), put("a")}, false},
		"257 put, all at its place": {puts(1, strings.Repeat("a", 257)), false},
		"200 puts":                  {puts(200, "a"), true},
		"heaviest":                  {heaviest(), true},
		"drops do not count":        {[]api.Part{drop(api.MaxIndex)}, true},
		"keeps do not count":        {[]api.Part{keep(api.MaxIndex)}, true},
		"too many kept":             {[]api.Part{keep(api.MaxIndex + 1)}, false},
		"too many of":               {[]api.Part{keep(api.MaxIndex), drop(1)}, false},
		"makes too many":            {[]api.Part{keep(api.MaxIndex), put("a")}, false},
		"no kind":                   {[]api.Part{{N: 1}}, false},
		"another kind":              {[]api.Part{{Kind: 4, N: 1}}, false},
		"two keeps":                 {[]api.Part{keep(1), keep(1)}, false},
		"put behind drop":           {[]api.Part{drop(1), put("a")}, false},
		"text that is kept":         {[]api.Part{{Kind: api.Keep, N: 1, Text: "a"}}, false},
		"another length":            {[]api.Part{{Kind: api.Put, N: 2, Text: "a"}}, false},
		"no UTF-8":                  {[]api.Part{{Kind: api.Put, N: 1, Text: "\xff"}}, false},
		"nothing put":               {[]api.Part{{Kind: api.Put}}, false},
		"below nothing":             {[]api.Part{{Kind: api.Keep, N: -1}}, false},
		"least":                     {[]api.Part{{Kind: math.MinInt, N: math.MinInt}}, false},
		"greatest":                  {[]api.Part{{Kind: math.MaxInt, N: math.MaxInt, Text: long}}, false},
	} {
		if got := Light(c.e); got != c.want {
			t.Errorf("%s: %t", name, got)
		}
	}
}

// has is the chapter's table: which fields each kind has.
var has = map[int]string{
	1: "Rev", 2: "Seq Rev Edit", 3: "Seq Rev At N Target", 4: "Rev At", 5: "", 6: "Err", 7: "Rev Seq", 8: "Rev Who Seq Edit", 9: "Seq Err", 10: "Who Rev At",
}

// greatest is the chapter's greatest number of each field.
var greatest = map[string]int{
	"Who": 7, "Seq": 1 << 40, "Rev": 1 << 40, "At": 1 << 40, "N": 1 << 40, "Target": 31, "Err": 1000,
}

func hasField(kind int, name string) bool {
	return strings.Contains(" "+has[kind]+" ", " "+name+" ")
}

func setField(m *api.Msg, name string, n int) {
	reflect.ValueOf(m).Elem().FieldByName(name).SetInt(int64(n))
}

// full is a message of a kind with something in all that it has.
func full(kind int) api.Msg {
	m := api.Msg{Kind: kind}
	i := 0
	for _, name := range []string{"Who", "Seq", "Rev", "At", "N", "Target", "Err"} {
		i++
		if hasField(kind, name) {
			setField(&m, name, i)
		}
	}
	if hasField(kind, "Edit") {
		m.Edit = []api.Part{keep(300), put("aé\U0001f600"), drop(2)}
	}
	return m
}

// refused tells of a message that may not be.
func refused(t *testing.T, m api.Msg) {
	t.Helper()
	if bad := Check(m); bad != api.ErrForm {
		t.Errorf("Check(%+v): %d", m, bad)
	}
	if b, bad := Put(m); len(b) != 0 || bad != api.ErrForm {
		t.Errorf("Put(%+v): %d bytes, %d", m, len(b), bad)
	}
	if got, bad := Get(plain(m)); !reflect.DeepEqual(got, api.Msg{}) || bad != api.ErrForm {
		t.Errorf("Get(%+v): %+v, %d", m, got, bad)
	}
}

// goes tells of a message that may be.
func goes(t *testing.T, m api.Msg) {
	t.Helper()
	if bad := Check(m); bad != api.OK {
		t.Errorf("Check(%+v): %d", m, bad)
	}
	b, bad := Put(m)
	if bad != api.OK || !bytes.Equal(b, plain(m)) {
		t.Errorf("Put(%+v): %x, %d", m, b, bad)
	}
	if got, bad := Get(b); !reflect.DeepEqual(got, m) || bad != api.OK {
		t.Errorf("Get(%+v): %+v, %d", m, got, bad)
	}
}

// plain is any message as bytes, whether it may be or not.
func plain(m api.Msg) []byte {
	var b []byte
	number := func(n int) { b = binary.BigEndian.AppendUint64(b, uint64(n)) }
	for _, n := range []int{m.Kind, m.Who, m.Seq, m.Rev, m.At, m.N, m.Target, int(m.Err), len(m.Edit)} {
		number(n)
	}
	for _, p := range m.Edit {
		number(p.Kind)
		number(p.N)
		number(len(p.Text))
		b = append(b, p.Text...)
	}
	return b
}

func TestP131Fields(t *testing.T) {
	for kind := range has {
		goes(t, api.Msg{Kind: kind})
		goes(t, full(kind))
		for name, most := range greatest {
			for _, n := range []int{1, most - 1, most} {
				m := full(kind)
				setField(&m, name, n)
				if hasField(kind, name) {
					goes(t, m)
				} else {
					refused(t, m)
				}
			}
			for _, n := range []int{-1, most + 1, math.MinInt, math.MaxInt} {
				m := full(kind)
				setField(&m, name, n)
				refused(t, m)
			}
		}
	}
}

func TestP131Kinds(t *testing.T) {
	for _, kind := range []int{0, 11, 12, -1, 1 << 40, math.MinInt, math.MaxInt} {
		refused(t, api.Msg{Kind: kind})
		refused(t, api.Msg{Kind: kind, Seq: 1, Rev: 1})
	}
	if len(has) != 10 {
		t.Error(len(has))
	}
}

func TestP131Edits(t *testing.T) {
	for kind := range has {
		for _, e := range [][]api.Part{{keep(1)}, {put("a"), drop(1)}, {put(strings.Repeat("é", api.MaxText))}, turns(api.MaxParts), heaviest()} {
			m := full(kind)
			m.Edit = e
			if hasField(kind, "Edit") {
				goes(t, m)
			} else {
				refused(t, m)
			}
		}
		for _, e := range [][]api.Part{{{}}, {keep(1), keep(1)}, {drop(1), put("a")}, turns(api.MaxParts + 1), puts(api.MaxText+1, "a"), {put(strings.Repeat("a", api.MaxText+1))}, {{Kind: api.Put, N: 1, Text: "\xff"}}, {{Kind: api.Drop, N: 1, Text: "a"}}, {{Kind: api.Put, N: 2, Text: "a"}}, {{Kind: api.Keep, N: math.MinInt}}} {
			m := full(kind)
			m.Edit = e
			refused(t, m)
		}
		m := full(kind)
		m.Edit = []api.Part{}
		if Check(m) != api.OK {
			t.Errorf("kind %d: no parts are an edit of nothing", kind)
		}
	}
}

func TestP131Bytes(t *testing.T) {
	b, bad := Put(api.Msg{Kind: api.MStep, Who: 7, Seq: 258, Rev: 3, Edit: []api.Part{keep(9), put("é")}})
	number := "\x00\x00\x00\x00\x00\x00"
	want := number + "\x00\x08" + number + "\x00\x07" + number + "\x01\x02" + number + "\x00\x03" + strings.Repeat("\x00", 32) + number + "\x00\x02" +
		number + "\x00\x01" + number + "\x00\x09" + number + "\x00\x00" +
		number + "\x00\x02" + number + "\x00\x01" + number + "\x00\x02é"
	if string(b) != want || bad != api.OK {
		t.Errorf("%q, %d", b, bad)
	}
	b, bad = Put(api.Msg{Kind: api.MBeat})
	if string(b) != number+"\x00\x05"+strings.Repeat("\x00", 64) || bad != api.OK {
		t.Errorf("%q, %d", b, bad)
	}
}

// none tells of bytes that are no message.
func none(t *testing.T, why string, b []byte) {
	t.Helper()
	if m, bad := Get(b); !reflect.DeepEqual(m, api.Msg{}) || bad != api.ErrForm {
		t.Errorf("%s: %+v, %d", why, m, bad)
	}
}

func TestP131WrongBytes(t *testing.T) {
	for kind := range has {
		b := plain(full(kind))
		for i := range b {
			none(t, "cut off", b[:i])
		}
		none(t, "a byte more", append(bytes.Clone(b), 0))
		none(t, "twice", append(bytes.Clone(b), b...))
		for i := range 9 {
			x := bytes.Clone(b)
			x[8*i] |= 0x80
			none(t, "above 2^63 - 1", x)
		}
	}
	none(t, "nothing", nil)
	none(t, "noughts", make([]byte, 72))
	none(t, "many", make([]byte, 1<<20))
	none(t, "all ones", bytes.Repeat([]byte{0xff}, 1<<12))
	head := octet.Put(nil, api.MEdit, 0, 1, 1, 0, 0, 0, 0)
	for _, n := range []int{1, api.MaxParts, api.MaxParts + 1, 1 << 40, math.MaxInt} {
		none(t, "parts that are not there", octet.Put(head, n))
	}
	part := octet.Put(octet.Put(head, 1), api.Put, 1)
	if _, bad := Get(octet.PutText(part, "é")); bad != api.OK {
		t.Error(bad)
	}
	none(t, "no UTF-8", octet.PutText(part, "\xff"))
	none(t, "half a code point", octet.PutText(part, "\xc3"))
	none(t, "two code points", octet.PutText(part, "aa"))
	none(t, "no code point", octet.PutText(part, ""))
	none(t, "a long text", octet.PutText(part, strings.Repeat("a", api.MaxText+1)))
	none(t, "a longer text than there is", octet.Put(part, math.MaxInt))
}

// Messages of all kinds, at random.
func random(r *rand.Rand) api.Msg {
	kind := 1 + r.Intn(10)
	m := api.Msg{Kind: kind}
	for _, name := range []string{"Who", "Seq", "Rev", "At", "N", "Target", "Err"} {
		if hasField(kind, name) {
			setField(&m, name, r.Intn(greatest[name]+1)>>r.Intn(40))
		}
	}
	if !hasField(kind, "Edit") {
		return m
	}
	texts := []string{"a", "é", "\U0001f600", "ab", "\x00", "\ufffd", "𝔸b"}
	var l []api.Part
	for range r.Intn(12) {
		l = append(l, []api.Part{keep(1 + r.Intn(99)), drop(1 + r.Intn(99)), put(texts[r.Intn(len(texts))])}[r.Intn(3)])
	}
	m.Edit = edit.Norm(l...)
	return m
}

func TestP134MessagesThereAndBack(t *testing.T) {
	r := rand.New(rand.NewSource(134))
	for range 5000 {
		m := random(r)
		b, bad := Put(m)
		got, worse := Get(b)
		if bad != api.OK || worse != api.OK || !(len(m.Edit) == 0 && len(got.Edit) == 0 || reflect.DeepEqual(m.Edit, got.Edit)) {
			t.Fatalf("%+v: %+v, %d, %d", m, got, bad, worse)
		}
		m.Edit, got.Edit = nil, nil
		if !reflect.DeepEqual(m, got) {
			t.Fatalf("%+v: %+v", m, got)
		}
	}
}

// Whatever bytes are read are the ones that are put: bytes are turned, put in and left out at random.
func TestP135MessagesOneForm(t *testing.T) {
	r := rand.New(rand.NewSource(135))
	read := 0
	for range 60000 {
		b := plain(random(r))
		for range 1 + r.Intn(2) {
			switch i := r.Intn(len(b)); r.Intn(8) {
			case 0:
				b = append(b[:i:i], b[i+1:]...)
			case 1:
				b = append(b[:i:i], append([]byte{byte(r.Intn(4))}, b[i:]...)...)
			case 2:
				b[i] = byte(r.Intn(256))
			default:
				i |= 7
				b[min(i, len(b)-1)] ^= 1 << r.Intn(3)
			}
		}
		m, bad := Get(b)
		if bad == api.ErrForm && reflect.DeepEqual(m, api.Msg{}) {
			continue
		}
		read++
		if again, worse := Put(m); bad != api.OK || worse != api.OK || !bytes.Equal(again, b) {
			t.Fatalf("%x: %+v, %d; %x, %d", b, m, bad, again, worse)
		}
	}
	if read < 1000 {
		t.Errorf("only %d were read", read)
	}
}

func TestP136LightMessagesFit(t *testing.T) {
	m := api.Msg{Kind: api.MStep, Who: 7, Seq: api.MaxIndex, Rev: api.MaxIndex, Edit: heaviest()}
	b, bad := Put(m)
	if bad != api.OK || len(b) != 72+24*api.MaxParts+4*api.MaxText || len(b) > 16320 {
		t.Errorf("%d bytes, %d", len(b), bad)
	}
	if bad := Fits(api.Frame{Conn: 1, Seq: 1, Body: b}); bad != api.OK {
		t.Error(bad)
	}
	for _, e := range [][]api.Part{append(heaviest(), drop(1)), append(heaviest()[:398:398], keep(1), put("ab"))} {
		m.Edit = e
		refused(t, m)
	}
}

func TestMemoryOfMessages(t *testing.T) {
	room := make([]api.Part, 3, 9)
	copy(room, []api.Part{keep(1), put("ab"), drop(1)})
	m := api.Msg{Kind: api.MEdit, Edit: room}
	b, _ := Put(m)
	for i := range b[:cap(b)] {
		b[:cap(b)][i] = 0xff
	}
	Light(room)
	Check(m)
	if !reflect.DeepEqual(room[:9], append([]api.Part{keep(1), put("ab"), drop(1)}, make([]api.Part, 6)...)) {
		t.Error(room[:9])
	}
	bytesOf := plain(m)
	given := bytes.Clone(bytesOf)
	one, _ := Get(bytesOf)
	two, _ := Get(bytesOf)
	for i := range bytesOf {
		bytesOf[i] = 0
	}
	if !reflect.DeepEqual(one.Edit, room) || !bytes.Equal(plain(one), given) {
		t.Error("a message hangs on the bytes that it was read from", one)
	}
	one.Edit[0].N = 7
	if two.Edit[0].N != 1 {
		t.Error("two answers share a list")
	}
}

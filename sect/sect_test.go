package sect

import (
	"bytes"
	"errors"
	"slices"
	"strings"
	"testing"

	"mandrel/api"
	"mandrel/leb"
)

// eight is a module without sections, byte by byte as the chapter tells it.
func eight() []byte { return []byte{0x00, 0x61, 0x73, 0x6d, 0x01, 0x00, 0x00, 0x00} }

// behind is the eight bytes, and others.
func behind(b ...byte) []byte { return append(eight(), b...) }

// number is the errno of an error: 0 of none.
func number(err error) api.Errno {
	var e api.Errno
	if errors.As(err, &e) {
		return e
	}
	return 0
}

// sameSection holds sections against each other. No contents and nil ones are the same.
func sameSection(a, b Section) bool {
	return a.ID == b.ID && a.At == b.At && bytes.Equal(a.Bytes, b.Bytes)
}

func sameSections(a, b []Section) bool { return slices.EqualFunc(a, b, sameSection) }

// cloneSections is a copy that shares nothing.
func cloneSections(l []Section) []Section {
	var out []Section
	for _, s := range l {
		s.Bytes = bytes.Clone(s.Bytes)
		out = append(out, s)
	}
	return out
}

// spared is a copy that has spare room, in which each byte is an ee.
func spared(b []byte) []byte {
	room := append(bytes.Clone(b), bytes.Repeat([]byte{0xee}, 32)...)
	return room[:len(b)]
}

// room is all that a list could hold, beyond its end too.
func room(b []byte) []byte { return bytes.Clone(b[:cap(b)]) }

// split calls Split on a copy, and asks that the copy stayed as it was.
func split(t *testing.T, b []byte) ([]Section, int, error) {
	t.Helper()
	given := spared(b)
	before := room(given)
	l, n, err := Split(given)
	if !bytes.Equal(room(given), before) {
		t.Fatalf("Split(% x) changed what it was given", b)
	}
	return l, n, err
}

func wantSplit(t *testing.T, b []byte, want []Section) {
	t.Helper()
	l, n, err := split(t, b)
	if err != nil || n != len(b) || !sameSections(l, want) {
		t.Errorf("Split(% x) = %v, %d, %v; want %v, %d", b, l, n, err, want, len(b))
	}
}

func wantWrong(t *testing.T, b []byte, at int, want api.Errno) {
	t.Helper()
	l, n, err := split(t, b)
	if len(l) != 0 || n != at || number(err) != want {
		t.Errorf("Split(% x) = %v, %d, %v; want no sections, %d, %v", b, l, n, err, at, want)
	}
}

func wantJoin(t *testing.T, l []Section, want []byte) {
	t.Helper()
	given := cloneSections(l)
	b, err := Join(given)
	if err != nil || !bytes.Equal(b, want) {
		t.Errorf("Join(%v) = % x, %v; want % x", l, b, err, want)
	}
	if !sameSections(given, l) {
		t.Errorf("Join(%v) changed what it was given", l)
	}
}

func wantNoJoin(t *testing.T, l []Section) {
	t.Helper()
	given := cloneSections(l)
	b, err := Join(given)
	if len(b) != 0 || number(err) != api.ErrArg {
		t.Errorf("Join(%v) = % x, %v; want ErrArg", l, b, err)
	}
	if !sameSections(given, l) {
		t.Errorf("Join(%v) changed what it was given", l)
	}
}

// lengthAt is how many bytes the text's part at the begin of b has, as the chapter's words go; 0, if there is none.
func lengthAt(b []byte) int {
	within := func(i int, low, high byte) bool { return i < len(b) && low <= b[i] && b[i] <= high }
	low, high := byte(0x80), byte(0xbf)
	if within(0, 0xe0, 0xe0) {
		low = 0xa0
	}
	if within(0, 0xed, 0xed) {
		high = 0x9f
	}
	if within(0, 0xf0, 0xf0) {
		low = 0x90
	}
	if within(0, 0xf4, 0xf4) {
		high = 0x8f
	}
	switch {
	case within(0, 0x00, 0x7f):
		return 1
	case within(0, 0xc2, 0xdf) && within(1, low, high):
		return 2
	case within(0, 0xe0, 0xef) && within(1, low, high) && within(2, 0x80, 0xbf):
		return 3
	case within(0, 0xf0, 0xf4) && within(1, low, high) && within(2, 0x80, 0xbf) && within(3, 0x80, 0xbf):
		return 4
	}
	return 0
}

// readText is the chapter's text, read a second time.
func readText(b []byte) bool {
	for len(b) > 0 {
		n := lengthAt(b)
		if n == 0 {
			return false
		}
		b = b[n:]
	}
	return true
}

// each hands on all rows of so many bytes out of some, in one list that is written anew each time.
func each(n int, some []byte, visit func([]byte)) {
	row := make([]byte, n)
	var fill func(i int)
	fill = func(i int) {
		if i == n {
			visit(row)
			return
		}
		for _, c := range some {
			row[i] = c
			fill(i + 1)
		}
	}
	fill(0)
}

func allBytes() []byte {
	var out []byte
	for c := range 256 {
		out = append(out, byte(c))
	}
	return out
}

// SC1: which bytes are a text.
func TestText(t *testing.T) {
	texts := []string{
		"", "\x00", "a", "\x7f", "type", "a\x00b",
		"\xc2\x80", "\xc2\xbf", "\xdf\x80", "\xdf\xbf",
		"\xe0\xa0\x80", "\xe0\xbf\xbf", "\xe1\x80\x80", "\xec\xbf\xbf",
		"\xed\x80\x80", "\xed\x9f\xbf", "\xee\x80\x80", "\xef\xbf\xbf",
		"\xf0\x90\x80\x80", "\xf0\xbf\xbf\xbf", "\xf1\x80\x80\x80", "\xf3\xbf\xbf\xbf",
		"\xf4\x80\x80\x80", "\xf4\x8f\xbf\xbf",
		"a\xc2\x80b\xe0\xa0\x80\xf4\x8f\xbf\xbfc",
	}
	for _, s := range texts {
		if !Text([]byte(s)) {
			t.Errorf("Text(% x) = false", s)
		}
	}
	if !Text(nil) {
		t.Error("Text(nil) = false")
	}
}

// SC1: which bytes are none.
func TestNoText(t *testing.T) {
	none := []string{
		"\x80", "\xbf", "\xc0", "\xc1", "\xf5", "\xff", "a\x80", "\x80a",
		"\xc0\x80", "\xc1\xbf", "\xc2", "\xc2\x7f", "\xc2\xc0", "\xc2\x80\x80", "\xdf\xbf\xbf",
		"\xe0\x80\x80", "\xe0\x9f\xbf", "\xe0\xa0", "\xe0", "\xe1\x80", "\xe1\x7f\x80", "\xe1\xc0\x80", "\xe1\x80\x7f", "\xe1\x80\xc0",
		"\xed\xa0\x80", "\xed\xbf\xbf", "\xed\x9f", "\xef\xbf\xbf\xbf",
		"\xf0\x80\x80\x80", "\xf0\x8f\xbf\xbf", "\xf0\x90\x80", "\xf0\x90", "\xf0",
		"\xf1\x80\x80\x7f", "\xf1\x80\xc0\x80", "\xf1\x80\x80\x80\x80",
		"\xf4\x90\x80\x80", "\xf4\xbf\xbf\xbf", "\xf4\x8f\xbf", "\xf5\x80\x80\x80", "\xf8\x88\x80\x80\x80",
	}
	for _, s := range none {
		if Text([]byte(s)) {
			t.Errorf("Text(% x) = true", s)
		}
	}
}

// SC1: Text against the chapter's words, over all short rows, and over longer ones of bytes at the borders.
func TestTextAgainstWords(t *testing.T) {
	hold := func(b []byte) {
		if want := readText(b); Text(b) != want {
			t.Errorf("Text(% x) = %v", b, !want)
		}
	}
	for n := range 4 {
		each(n, allBytes(), hold)
	}
	borders := []byte{
		0x00, 0x7f, 0x80, 0x8f, 0x90, 0x9f, 0xa0, 0xbf, 0xc0, 0xc1, 0xc2, 0xdf,
		0xe0, 0xe1, 0xec, 0xed, 0xee, 0xef, 0xf0, 0xf1, 0xf3, 0xf4, 0xf5, 0xff,
	}
	each(4, borders, hold)
	each(6, []byte{0x41, 0x80, 0xbf, 0xc3, 0xe0, 0xed, 0xf0, 0xf4}, hold)
}

// SC1: Named is the name's length, the name, and the rest.
func TestNamed(t *testing.T) {
	long, longest := strings.Repeat("n", 128), strings.Repeat("é", 128)
	for _, c := range []struct {
		name, rest, want string
	}{
		{"", "", "\x00"},
		{"", "\xff\x00", "\x00\xff\x00"},
		{"a", "", "\x01a"},
		{"name", "\x80\xff", "\x04name\x80\xff"},
		{"\x00", "x", "\x01\x00x"},
		{"é\U0010ffff", "x", "\x06é\U0010ffffx"},
		{long[:127], "", "\x7f" + long[:127]},
		{long, "r", "\x80\x01" + long + "r"},
		{longest, "r", "\x80\x02" + longest + "r"},
	} {
		given := spared([]byte(c.rest))
		before := room(given)
		s, err := Named(c.name, given)
		if err != nil || !sameSection(s, Section{Bytes: []byte(c.want)}) {
			t.Errorf("Named(%q, %q) = %v, %v; want %q", c.name, c.rest, s, err, c.want)
		}
		if !bytes.Equal(room(given), before) {
			t.Errorf("Named(%q, %q) changed what it was given", c.name, c.rest)
		}
	}
	if s, err := Named("a", nil); err != nil || !sameSection(s, Section{Bytes: []byte("\x01a")}) {
		t.Errorf("Named of no bytes = %v, %v", s, err)
	}
}

// SC1: Named of a name that is too long, or no text.
func TestNamedWrong(t *testing.T) {
	for _, name := range []string{
		strings.Repeat("n", 257),
		strings.Repeat("é", 128) + "n",
		strings.Repeat("n", 255) + "é",
		strings.Repeat("n", 1<<16),
		"\x80", "a\xff", "\xc2", "\xed\xa0\x80",
		strings.Repeat("n", 255) + "\xc3",
		strings.Repeat("\xff", 300),
	} {
		s, err := Named(name, []byte("rest"))
		if number(err) != api.ErrArg || !sameSection(s, Section{}) {
			t.Errorf("Named of %d bytes, %q = %v, %v; want ErrArg", len(name), name[:1], s, err)
		}
	}
}

// SC1: what Named answers is new memory, and goes into a module.
func TestNamedNew(t *testing.T) {
	rest := []byte("rest")
	s, err := Named("a", rest)
	if err != nil {
		t.Fatal(err)
	}
	rest[0] = 'R'
	if string(s.Bytes) != "\x01arest" {
		t.Errorf("the section follows what was given: %q", s.Bytes)
	}
	s.Bytes[2] = 'x'
	if string(rest) != "Rest" {
		t.Errorf("what was given follows the section: %q", rest)
	}
	wantJoin(t, []Section{s}, behind(0, 6, 1, 'a', 'x', 'e', 's', 't'))
	wantSplit(t, behind(0, 6, 1, 'a', 'x', 'e', 's', 't'), []Section{{At: 10, Bytes: []byte("\x01axest")}})
}

// telling is sections, and their bytes.
type telling struct {
	l []Section
	b []byte
}

func tellings() []telling {
	var all []Section
	var allTold []byte
	for id := byte(1); id <= 11; id++ {
		all = append(all, Section{ID: id, At: 8 + len(allTold) + 2, Bytes: []byte{id, 0xff}})
		allTold = append(allTold, id, 2, id, 0xff)
	}
	long := bytes.Repeat([]byte{7}, 300)
	name := append([]byte{0xac, 0x02}, bytes.Repeat([]byte{'n'}, 300)...)
	return []telling{
		{nil, eight()},
		{[]Section{{ID: 1, At: 10}}, behind(1, 0)},
		{[]Section{{ID: 11, At: 10, Bytes: []byte{9}}}, behind(11, 1, 9)},
		{[]Section{{ID: 2, At: 10}, {ID: 7, At: 12, Bytes: []byte{1, 2}}, {ID: 8, At: 16}}, behind(2, 0, 7, 2, 1, 2, 8, 0)},
		{all, behind(allTold...)},
		{[]Section{{At: 10, Bytes: []byte{0}}}, behind(0, 1, 0)},
		{[]Section{{At: 10, Bytes: []byte{0, 0xff}}}, behind(0, 2, 0, 0xff)},
		{[]Section{{At: 10, Bytes: []byte{2, 0xc3, 0xa9, 0x80}}}, behind(0, 4, 2, 0xc3, 0xa9, 0x80)},
		{[]Section{{At: 10, Bytes: []byte{0x80, 0x80, 0x80, 0x80, 0}}}, behind(0, 5, 0x80, 0x80, 0x80, 0x80, 0)},
		{[]Section{{At: 10, Bytes: []byte{0x81, 0, 'a'}}}, behind(0, 3, 0x81, 0, 'a')},
		{
			[]Section{{At: 10, Bytes: []byte{0}}, {ID: 3, At: 13}, {At: 15, Bytes: []byte{1, 'a'}}, {At: 19, Bytes: []byte{1, 'a'}}, {ID: 4, At: 23}, {At: 25, Bytes: []byte{0, 1}}},
			behind(0, 1, 0, 3, 0, 0, 2, 1, 'a', 0, 2, 1, 'a', 4, 0, 0, 2, 0, 1),
		},
		{[]Section{{ID: 10, At: 10, Bytes: long[:127]}}, append(behind(10, 0x7f), long[:127]...)},
		{[]Section{{ID: 10, At: 11, Bytes: long[:128]}}, append(behind(10, 0x80, 0x01), long[:128]...)},
		{[]Section{{ID: 10, At: 11, Bytes: long}, {ID: 11, At: 313}}, append(append(behind(10, 0xac, 0x02), long...), 11, 0)},
		{[]Section{{At: 11, Bytes: name}}, append(behind(0, 0xae, 0x02), name...)},
	}
}

// SC1, SC2, SC3: sections and their bytes, both ways.
func TestTellings(t *testing.T) {
	for _, c := range tellings() {
		wantJoin(t, c.l, c.b)
		wantSplit(t, c.b, c.l)
	}
}

// SC1: At does not matter; SC3: Split sets it.
func TestJoinAt(t *testing.T) {
	for _, at := range []int{0, -1, 7, 1 << 40, -1 << 63} {
		for _, c := range tellings() {
			l := cloneSections(c.l)
			for i := range l {
				l[i].At = at
			}
			wantJoin(t, l, c.b)
		}
	}
}

// SC1: sections that Split does not answer.
func TestJoinWrong(t *testing.T) {
	for id := 12; id < 256; id++ {
		wantNoJoin(t, []Section{{ID: byte(id)}})
		wantNoJoin(t, []Section{{ID: 1}, {ID: byte(id), Bytes: []byte{0}}})
	}
	for a := byte(1); a <= 11; a++ {
		for b := byte(1); b <= 11; b++ {
			l := []Section{{ID: a}, {Bytes: []byte{0}}, {ID: b}}
			if a < b {
				wantJoin(t, l, behind(a, 0, 0, 1, 0, b, 0))
			} else {
				wantNoJoin(t, l)
				wantNoJoin(t, []Section{{ID: a}, {ID: b}})
			}
		}
	}
	wantNoJoin(t, []Section{{ID: 1}, {ID: 5}, {ID: 3}})
	wantNoJoin(t, []Section{{ID: 5}, {ID: 6}, {ID: 5}})
	for _, contents := range []string{
		"", "\x80", "\x80\x80\x80\x80", "\x80\x80\x80\x80\x80\x00", "\x80\x80\x80\x80\x10", "\xff\xff\xff\xff\x0f",
		"\x01", "\x02a", "\x01\x80", "\x02a\xff", "\x01\xc3\xa9", "\x03\xed\xa0\x80",
	} {
		wantNoJoin(t, []Section{{Bytes: []byte(contents)}})
		wantNoJoin(t, []Section{{ID: 4}, {Bytes: []byte{0}}, {Bytes: []byte(contents)}, {ID: 5}})
		wantJoin(t, []Section{{ID: 3, Bytes: []byte(contents)}}, append(behind(3, byte(len(contents))), contents...))
	}
}

// SC1: what Join answers is new memory.
func TestJoinNew(t *testing.T) {
	a, err := Join(nil)
	if err != nil {
		t.Fatal(err)
	}
	a[0] = 9
	wantJoin(t, []Section{}, eight())
	l := []Section{{ID: 1, Bytes: spared([]byte{5})}}
	b, err := Join(l)
	if err != nil {
		t.Fatal(err)
	}
	b[10] = 6
	if l[0].Bytes[0] != 5 || room(l[0].Bytes)[1] != 0xee {
		t.Errorf("what was given follows what was answered: % x", room(l[0].Bytes))
	}
}

// SC2: the first eight bytes, cut off, or others.
func TestSplitBegin(t *testing.T) {
	wantWrong(t, nil, 0, api.ErrEnd)
	for i := range 8 {
		wantWrong(t, eight()[:i], i, api.ErrEnd)
		for c := range 256 {
			b := behind(1, 0)
			if b[i] == byte(c) {
				continue
			}
			b[i] = byte(c)
			wantWrong(t, b, i, api.ErrMalformed)
			wantWrong(t, b[:8], i, api.ErrMalformed)
			wantWrong(t, b[:i+1], i, api.ErrMalformed)
			b[7] = 9
			wantWrong(t, b, i, api.ErrMalformed)
		}
	}
}

// SC2: cut off anywhere behind the first eight bytes: the end, at the number, unless it is between two sections.
func TestSplitCut(t *testing.T) {
	for _, c := range tellings() {
		ends := []int{8}
		for _, s := range c.l {
			ends = append(ends, s.At+len(s.Bytes))
		}
		for cut := 8; cut <= len(c.b); cut++ {
			i, between := slices.BinarySearch(ends, cut)
			if between {
				wantSplit(t, c.b[:cut], c.l[:i])
			} else {
				wantWrong(t, c.b[:cut], ends[i-1]+1, api.ErrEnd)
			}
		}
	}
}

// SC2: an ID that may not stand there, whatever stands behind it.
func TestSplitID(t *testing.T) {
	rests := [][]byte{nil, {0}, {0x80}, {1}, {1, 7}, {0x80, 0x80, 0x80, 0x80, 0x80}}
	for _, rest := range rests {
		for id := 12; id < 256; id++ {
			wantWrong(t, append(behind(byte(id)), rest...), 8, api.ErrMalformed)
			wantWrong(t, append(behind(0, 1, 0, byte(id)), rest...), 11, api.ErrMalformed)
		}
		for a := byte(1); a <= 11; a++ {
			for b := byte(1); b <= a; b++ {
				wantWrong(t, append(behind(a, 0, b), rest...), 10, api.ErrMalformed)
				wantWrong(t, append(behind(a, 1, 0, 0, 1, 0, b), rest...), 14, api.ErrMalformed)
			}
		}
		wantWrong(t, append(behind(2, 0, 6, 0, 4), rest...), 12, api.ErrMalformed)
	}
}

// SC2: a number told in more bytes than it needs, and in too many.
func TestSplitNumber(t *testing.T) {
	wantSplit(t, behind(1, 0x80, 0x00), []Section{{ID: 1, At: 11}})
	wantSplit(t, behind(1, 0x81, 0x80, 0x80, 0x80, 0x00, 9), []Section{{ID: 1, At: 14, Bytes: []byte{9}}})
	wantSplit(t, behind(0, 0x82, 0x00, 0x80, 0x00, 1, 0), []Section{{At: 11, Bytes: []byte{0x80, 0}}, {ID: 1, At: 15}})
	for _, id := range []byte{0, 1, 11} {
		wantWrong(t, behind(id, 0x80, 0x80, 0x80, 0x80, 0x80), 9, api.ErrMalformed)
		wantWrong(t, behind(id, 0x80, 0x80, 0x80, 0x80, 0x80, 0x00), 9, api.ErrMalformed)
		wantWrong(t, behind(id, 0x80, 0x80, 0x80, 0x80, 0x10), 9, api.ErrMalformed)
		wantWrong(t, behind(id, 0xff, 0xff, 0xff, 0xff, 0x0f), 9, api.ErrEnd)
		wantWrong(t, behind(id, 0x80, 0x80, 0x80, 0x80, 0x08, 1), 9, api.ErrEnd)
		wantWrong(t, behind(id, 0x80, 0x80, 0x80, 0x80), 9, api.ErrEnd)
		wantWrong(t, behind(id), 9, api.ErrEnd)
		wantWrong(t, behind(id, 1), 9, api.ErrEnd)
		wantWrong(t, behind(id, 3, 1, 0), 9, api.ErrEnd)
	}
	wantWrong(t, behind(1, 2, 7, 7, 2, 0x82, 0x00, 1), 13, api.ErrEnd)
}

// SC2: the name of a section of ID 0.
func TestSplitName(t *testing.T) {
	for _, c := range []struct {
		contents string
		want     api.Errno
	}{
		{"", api.ErrEnd},
		{"\x80", api.ErrEnd},
		{"\x80\x80\x80\x80", api.ErrEnd},
		{"\x80\x80\x80\x80\x80", api.ErrMalformed},
		{"\x80\x80\x80\x80\x80\x00", api.ErrMalformed},
		{"\x80\x80\x80\x80\x10", api.ErrMalformed},
		{"\xff\xff\xff\xff\x0f", api.ErrMalformed},
		{"\x01", api.ErrMalformed},
		{"\x03ab", api.ErrMalformed},
		{"\x83\x00ab", api.ErrMalformed},
		{"\x01\x80", api.ErrMalformed},
		{"\x01\xc3\xa9", api.ErrMalformed},
		{"\x03a\xffb", api.ErrMalformed},
		{"\x03\xed\xa0\x80", api.ErrMalformed},
		{"\x02\xff", api.ErrMalformed},
	} {
		size := byte(len(c.contents))
		alone := append(behind(0, size), c.contents...)
		wantWrong(t, alone, 10, c.want)
		// What stands behind the contents is none of the name's.
		wantWrong(t, append(alone, 1, 4, 'a', 'b', 'c', 'd'), 10, c.want)
		wantWrong(t, append(alone, 0xff), 10, c.want)
		wantWrong(t, append(behind(3, 1, 9, 0, 0x80|size, 0), c.contents...), 14, c.want)
		wantSplit(t, append(behind(3, size), c.contents...), []Section{{ID: 3, At: 10, Bytes: []byte(c.contents)}})
	}
}

// SC2: what Split answers is new memory, and no two sections share any.
func TestSplitNew(t *testing.T) {
	b := behind(0, 2, 1, 'a', 1, 1, 7, 2, 0, 3, 2, 8, 9)
	given := bytes.Clone(b)
	l, _, err := Split(given)
	if err != nil {
		t.Fatal(err)
	}
	want := cloneSections(l)
	clear(given)
	if !sameSections(l, want) {
		t.Errorf("the sections follow what was given: %v", l)
	}
	copy(given, b)
	for i := range l {
		_ = append(l[i].Bytes, 1, 2, 3, 4, 5, 6, 7, 8)
	}
	if !sameSections(l, want) {
		t.Errorf("a section's spare room is another's: %v", l)
	}
	for i := range l {
		clear(l[i].Bytes[:cap(l[i].Bytes)])
	}
	if !bytes.Equal(given, b) {
		t.Errorf("what was given follows the sections: % x", given)
	}
}

// fault is where bytes are wrong, and how.
type fault struct {
	at  int
	err api.Errno
}

// readBehind is the chapter's Split from a place on, read a second time: where each section's contents begin and end, or the first fault.
func readBehind(b []byte, at int, seen []byte) (ends []int, f fault) {
	if at == len(b) {
		return nil, f
	}
	id := b[at]
	if id > 11 || id > 0 && len(seen) > 0 && id <= slices.Max(seen) {
		return nil, fault{at, api.ErrMalformed}
	}
	size, n, err := leb.TakeU(b[at+1:], 32)
	if err != nil {
		return nil, fault{at + 1, number(err)}
	}
	from := at + 1 + n
	to := from + int(size)
	if to > len(b) {
		return nil, fault{at + 1, api.ErrEnd}
	}
	if id == 0 {
		length, m, err := leb.TakeU(b[from:to], 32)
		if err != nil {
			return nil, fault{from, number(err)}
		}
		if from+m+int(length) > to || !readText(b[from+m:from+m+int(length)]) {
			return nil, fault{from, api.ErrMalformed}
		}
	}
	more, f := readBehind(b, to, append(seen, id))
	return append([]int{from, to}, more...), f
}

// SC2, SC3: Split against the second reading, over many bytes behind the first eight; and what it answers, joined and split again.
func TestSplitAgainstWords(t *testing.T) {
	hold := func(rest []byte) {
		b := behind(rest...)
		ends, f := readBehind(b, 8, nil)
		if f.err != 0 {
			wantWrong(t, b, f.at, f.err)
			return
		}
		l, n, err := Split(b)
		if err != nil || n != len(b) || 2*len(l) != len(ends) {
			t.Errorf("Split(% x) = %v, %d, %v; want sections at %v", b, l, n, err, ends)
			return
		}
		at := 8
		for i, s := range l {
			from, to := ends[2*i], ends[2*i+1]
			if !sameSection(s, Section{ID: b[at], At: from, Bytes: b[from:to]}) {
				t.Errorf("Split(% x): section %d is %v; want %d to %d", b, i, s, from, to)
			}
			at = to
		}
		wantAgain(t, l)
	}
	for n := range 3 {
		each(n, allBytes(), hold)
	}
	some := []byte{0, 1, 2, 3, 11, 12, 0x41, 0x80, 0x82, 0xc3, 0xff}
	for n := 3; n < 6; n++ {
		each(n, some, hold)
	}
	each(8, []byte{0, 1, 2, 0x80}, hold)
}

// wantAgain asks that the sections come back out of their bytes, each at its place there.
func wantAgain(t *testing.T, l []Section) {
	t.Helper()
	b, err := Join(l)
	if err != nil {
		t.Errorf("Join(%v): %v", l, err)
		return
	}
	want := cloneSections(l)
	at := 8
	for i, s := range want {
		want[i].At = at + 1 + leb.SizeU(uint64(len(s.Bytes)))
		at = want[i].At + len(s.Bytes)
	}
	again, n, err := Split(b)
	if err != nil || n != at || n != len(b) || !sameSections(again, want) {
		t.Errorf("Split(Join(%v)) = %v, %d, %v", l, again, n, err)
	}
}

// SC3: each choice of IDs, with names between them.
func TestJoinSplitIDs(t *testing.T) {
	for chosen := range 1 << 11 {
		var l []Section
		for id := range 11 {
			if chosen>>id&1 == 0 {
				continue
			}
			s, err := Named(strings.Repeat("n", id*20), bytes.Repeat([]byte{0xff}, chosen%200))
			if err != nil {
				t.Fatal(err)
			}
			l = append(l, s, Section{ID: byte(id + 1), At: chosen, Bytes: bytes.Repeat([]byte{byte(id)}, chosen%131)})
		}
		wantAgain(t, l)
	}
}

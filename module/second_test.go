package module_test

import (
	"bytes"
	"errors"
	"math/rand"
	"reflect"
	"slices"
	"testing"
	"unicode/utf8"

	"mandrel/api"
	"mandrel/expr"
	"mandrel/leb"
	"mandrel/module"
	"mandrel/sect"
)

// fault is what a second reading of the chapter finds wrong, and where.
type fault struct {
	at  int
	err api.Errno
}

// second reads the chapter once more, by other means: it goes off with a fault by a panic, and has its own numbers.
type second struct {
	b   []byte // up to the end of the section, or of the code
	at  int
	m   api.Module
	had [12]bool
}

// readAgain is what Decode should answer.
func readAgain(b []byte) (m api.Module, n int, errno api.Errno) {
	defer func() {
		if f, ok := recover().(fault); ok {
			m, n, errno = api.Module{}, f.at, f.err
		}
	}()
	l, n, err := sect.Split(b)
	if errors.As(err, &errno) {
		return api.Module{}, n, errno
	}
	s := &second{}
	for _, x := range l {
		s.had[x.ID] = true
		if x.ID == 0 {
			continue
		}
		s.b, s.at = b[:x.At+len(x.Bytes)], x.At
		s.contents(x.ID)
		if s.at != len(s.b) {
			panic(fault{s.at, api.ErrMalformed})
		}
	}
	if len(s.m.Funcs) > 0 && !s.had[10] {
		return api.Module{}, len(b), api.ErrMalformed
	}
	return s.m, len(b), 0
}

// group takes a number's bytes: at most so many, and the last one's bits that may be.
func (s *second) group(most int) (from, to int) {
	for from, to = s.at, s.at; ; to++ {
		switch {
		case to == from+most:
			panic(fault{from, api.ErrMalformed})
		case to == len(s.b):
			panic(fault{from, api.ErrEnd})
		case s.b[to] < 128:
			s.at = to + 1
			return from, to
		}
	}
}

func (s *second) u() uint64 {
	from, to := s.group(5)
	if to == from+4 && s.b[to] > 15 {
		panic(fault{from, api.ErrMalformed})
	}
	v := uint64(0)
	for i := to; i >= from; i-- {
		v = v*128 + uint64(s.b[i]%128)
	}
	return v
}

func (s *second) s(bits int) int64 {
	most := (bits + 6) / 7
	from, to := s.group(most)
	last := s.b[to]
	if to == from+most-1 {
		low, high := byte(8), byte(0x78) // the fifth byte of 32 bits has four of them
		if bits == 64 {
			low, high = 1, 0x7f // the tenth one of 64 has one
		}
		if last >= low && last < high {
			panic(fault{from, api.ErrMalformed})
		}
	}
	v := int64(last % 128)
	if last >= 64 {
		v -= 128
	}
	for i := to - 1; i >= from; i-- {
		v = v*128 + int64(s.b[i]%128)
	}
	return v
}

// few takes a number, which is a fault if it is above most.
func (s *second) few(most uint64, err api.Errno) int {
	at := s.at
	v := s.u()
	if v > most {
		panic(fault{at, err})
	}
	return int(v)
}

// c takes a byte, which is a fault if it is none of those; others have a fault of their own.
func (s *second) c(are string, err api.Errno, others string) byte {
	if s.at == len(s.b) {
		panic(fault{s.at, api.ErrEnd})
	}
	v := s.b[s.at]
	if bytes.IndexByte([]byte(others), v) >= 0 {
		panic(fault{s.at, api.ErrUnsupported})
	}
	if bytes.IndexByte([]byte(are), v) < 0 {
		panic(fault{s.at, err})
	}
	s.at++
	return v
}

func (s *second) k() api.Kind { return api.Kind(s.c("\x7f\x7e", api.ErrMalformed, "\x7d\x7c")) }

// text takes so many bytes as a number tells, which may be told as wrong for them.
func (s *second) text(most uint64, isText bool) []byte {
	at := s.at
	n := s.u()
	left := s.b[s.at:]
	there := n <= uint64(len(left))
	if there && isText && !utf8.Valid(left[:n]) {
		panic(fault{at, api.ErrMalformed})
	}
	if n > most {
		panic(fault{at, api.ErrLimit})
	}
	if !there {
		panic(fault{at, api.ErrEnd})
	}
	s.at += int(n)
	return left[:n]
}

func (s *second) begin() api.Instr {
	in := api.Instr{Op: s.c("\x41\x42", api.ErrInvalid, "\x43\x44")}
	in.N = s.s(32 * int(in.Op-0x40))
	s.c("\x0b", api.ErrInvalid, "")
	return in
}

func (s *second) limits() (l api.Limits) {
	l.Has = s.c("\x00\x01", api.ErrMalformed, "") == 1
	l.Min = uint32(s.u())
	if l.Has {
		l.Max = uint32(s.u())
	}
	return l
}

func (s *second) contents(id byte) {
	switch id {
	case 2:
		s.few(0, api.ErrUnsupported)
		return
	case 8:
		panic(fault{s.at, api.ErrUnsupported})
	case 10:
		s.codes()
		return
	}
	for range s.few(256, api.ErrLimit) {
		s.item(id)
	}
}

func (s *second) item(id byte) {
	m := &s.m
	switch id {
	case 1:
		m.Types = append(m.Types, s.sign())
	case 3:
		m.Funcs = append(m.Funcs, api.Func{Type: uint32(s.u())})
	case 4:
		s.c("\x70", api.ErrMalformed, "")
		m.Tables = append(m.Tables, s.limits())
	case 5:
		m.Memories = append(m.Memories, s.limits())
	case 6:
		g := api.Global{Kind: s.k()}
		g.Mut = s.c("\x00\x01", api.ErrMalformed, "") == 1
		g.Init = s.begin()
		m.Globals = append(m.Globals, g)
	case 7:
		e := api.Export{Name: string(s.text(256, true))}
		e.What = s.c("\x00\x01\x02\x03", api.ErrMalformed, "")
		e.Index = uint32(s.u())
		m.Exports = append(m.Exports, e)
	case 9:
		e := api.Elem{Table: uint32(s.u())}
		e.Offset = s.begin()
		for range s.few(256, api.ErrLimit) {
			e.Funcs = append(e.Funcs, uint32(s.u()))
		}
		m.Elems = append(m.Elems, e)
	case 11:
		d := api.Data{Memory: uint32(s.u())}
		d.Offset = s.begin()
		d.Bytes = s.text(1<<16, false)
		m.Datas = append(m.Datas, d)
	}
}

func (s *second) sign() (t api.Type) {
	s.c("\x60", api.ErrMalformed, "")
	for range s.few(256, api.ErrLimit) {
		t.Params = append(t.Params, s.k())
	}
	if s.few(1, api.ErrUnsupported) == 1 {
		t.Result = s.k()
	}
	return t
}

func (s *second) codes() {
	at := s.at
	if s.u() != uint64(len(s.m.Funcs)) {
		panic(fault{at, api.ErrMalformed})
	}
	for i := range s.m.Funcs {
		at := s.at
		n := s.u()
		if n > uint64(len(s.b)-s.at) {
			panic(fault{at, api.ErrEnd})
		}
		one := &second{b: s.b[:s.at+int(n)], at: s.at}
		one.code(&s.m.Funcs[i])
		s.at += int(n)
	}
}

func (s *second) code(f *api.Func) {
	for range s.few(256, api.ErrLimit) {
		n := s.few(uint64(256-len(f.Locals)), api.ErrLimit)
		f.Locals = append(f.Locals, slices.Repeat([]api.Kind{s.k()}, n)...)
	}
	l, n, err := expr.Decode(s.b[s.at:])
	var errno api.Errno
	if errors.As(err, &errno) {
		panic(fault{s.at + n, errno})
	}
	f.Body = l
	if s.at += n; s.at != len(s.b) {
		panic(fault{s.at, api.ErrMalformed})
	}
}

// hold holds Decode against the second reading, and, if there is a module, what can be told of it.
func hold(t *testing.T, b []byte) (well bool) {
	t.Helper()
	m, n, err := module.Decode(b)
	want, at, errno := readAgain(b)
	if errno != 0 {
		var got api.Errno
		if !errors.As(err, &got) || got != errno || n != at || !reflect.ValueOf(m).IsZero() {
			t.Fatalf("Decode(%x): %v at %d, want %v at %d", b, err, n, errno, at)
		}
		return false
	}
	if err != nil || n != len(b) || !module.Same(m, want) {
		t.Fatalf("Decode(%x): %+v, %d, %v, want %+v", b, m, n, err, want)
	}
	return true
}

// holdWell is hold, and MO3 of what is well.
func holdWell(t *testing.T, b []byte) {
	t.Helper()
	if !hold(t, b) {
		return
	}
	m, _, _ := module.Decode(b)
	told, err := module.Encode(m)
	back, n, err2 := module.Decode(told)
	if err != nil || err2 != nil || n != len(told) || len(told) > len(b) || !equal(back, m) {
		t.Fatalf("Decode of Encode of %x: %+v, want %+v (%v, %v)", b, back, m, err, err2)
	}
}

// sectionIDs are those of which something can be read.
var sectionIDs = []byte{1, 2, 3, 4, 5, 6, 7, 8, 9, 10, 11}

// laid is the bytes of one section, with functions ahead of it, if it is 10.
func laid(id byte, contents []byte) []byte {
	b := []byte("\x00asm\x01\x00\x00\x00")
	if id == 10 {
		b = append(b, 3, 2, 1, 0)
	}
	return append(leb.PutU(append(b, id), uint64(len(contents))), contents...)
}

// TestSecondShort (MO2): all contents of at most two bytes, of each section.
func TestSecondShort(t *testing.T) {
	for _, id := range sectionIDs {
		holdWell(t, laid(id, nil))
		for x := range 256 {
			holdWell(t, laid(id, []byte{byte(x)}))
			for y := range 256 {
				holdWell(t, laid(id, []byte{byte(x), byte(y)}))
			}
		}
	}
}

// TestSecondChosen (MO2): all contents of six bytes of some that mean something.
func TestSecondChosen(t *testing.T) {
	chosen := []byte{0x00, 0x01, 0x02, 0x03, 0x0b, 0x41, 0x60, 0x70, 0x7f, 0x80}
	for _, id := range sectionIDs {
		contents := make([]byte, 5)
		for i := range 100000 {
			for j := range contents {
				contents[j] = chosen[i%10]
				i /= 10
			}
			hold(t, laid(id, append([]byte{1}, contents...)))
		}
	}
}

// TestSecondChanged (MO2): the rich module with each byte changed into each other one, taken out, or doubled.
func TestSecondChanged(t *testing.T) {
	b := whole(rich().l...)
	for i := range b {
		changed := bytes.Clone(b)
		for v := range 256 {
			changed[i] = byte(v)
			hold(t, changed)
		}
		hold(t, slices.Delete(bytes.Clone(b), i, i+1))
		hold(t, slices.Insert(bytes.Clone(b), i, b[i]))
		hold(t, b[:i])
	}
}

// TestSecondContents (MO2): the rich module's sections changed within, each told with the length that it has then.
func TestSecondContents(t *testing.T) {
	dice := rand.New(rand.NewSource(7))
	l, _, err := sect.Split(whole(rich().l...))
	if err != nil {
		t.Fatal(err)
	}
	for range 20000 {
		changed := slices.Clone(l)
		for range 1 + dice.Intn(3) {
			s := &changed[dice.Intn(len(l))]
			s.Bytes = shaken(dice, s.Bytes)
		}
		if dice.Intn(4) == 0 {
			i := dice.Intn(len(l))
			changed = slices.Delete(changed, i, i+1)
		}
		b, err := sect.Join(changed)
		if err != nil {
			t.Fatal(err)
		}
		holdWell(t, b)
	}
}

// shaken is bytes with one of them changed, taken out, put in, or with an end cut off.
func shaken(dice *rand.Rand, b []byte) []byte {
	if len(b) == 0 {
		return []byte{byte(dice.Intn(3))}
	}
	i := dice.Intn(len(b))
	b = bytes.Clone(b)
	switch dice.Intn(6) {
	case 0:
		return b[:i]
	case 1:
		return slices.Delete(b, i, i+1)
	case 2:
		return slices.Insert(b, i, byte(dice.Intn(256)))
	case 3:
		b[i] ^= 1 << dice.Intn(8)
	default:
		b[i] = []byte{0, 1, 2, 0x0b, 0x41, 0x42, 0x43, 0x7c, 0x7e, 0x7f, 0x80, 0xff}[dice.Intn(12)]
	}
	return b
}

// made is a module of what can be told.
func made(dice *rand.Rand) api.Module {
	var m api.Module
	few := func() int { return dice.Intn(4) }
	number := func() uint32 { return uint32(dice.Uint64() >> (32 + dice.Intn(32))) }
	value := func() api.Instr {
		if dice.Intn(2) == 0 {
			return i32(int64(int32(number())))
		}
		return i64(int64(dice.Uint64()) >> dice.Intn(64))
	}
	kinds := func(n int) (l []api.Kind) {
		for range n {
			l = append(l, api.Kind(0x7e+dice.Intn(2)))
		}
		return l
	}
	limits := func() api.Limits {
		if dice.Intn(2) == 0 {
			return api.Limits{Min: number()}
		}
		return api.Limits{Min: number(), Has: true, Max: number()}
	}
	for range few() {
		m.Types = append(m.Types, api.Type{Params: kinds(few()), Result: []api.Kind{api.None, api.I32, api.I64}[dice.Intn(3)]})
	}
	for range few() {
		m.Funcs = append(m.Funcs, api.Func{Type: number(), Locals: kinds(dice.Intn(20)), Body: many(few(), value())})
		m.Tables = append(m.Tables, limits())
	}
	for range few() {
		m.Memories = append(m.Memories, limits())
		m.Globals = append(m.Globals, api.Global{Kind: kinds(1)[0], Mut: dice.Intn(2) == 0, Init: value()})
	}
	for range few() {
		m.Exports = append(m.Exports, api.Export{Name: string([]rune{rune(dice.Intn(0xd800)), 'x', 0x10ffff}[:few()]), What: byte(few()), Index: number()})
	}
	for range few() {
		m.Elems = append(m.Elems, api.Elem{Table: number(), Offset: value(), Funcs: many(few(), number())})
		m.Datas = append(m.Datas, api.Data{Memory: number(), Offset: value(), Bytes: many(dice.Intn(200), byte(number()))})
	}
	return m
}

// TestMade (MO3): Decode of Encode of modules that are made by chance, and Decode of their bytes changed.
func TestMade(t *testing.T) {
	dice := rand.New(rand.NewSource(3))
	for range 3000 {
		m := made(dice)
		b, err := module.Encode(m)
		if err != nil {
			t.Fatalf("Encode(%+v): %v", m, err)
		}
		back, n, err := module.Decode(b)
		if err != nil || n != len(b) || !equal(back, m) {
			t.Fatalf("Decode of Encode of %+v: %+v, %d, %v", m, back, n, err)
		}
		again, err := module.Encode(back)
		if err != nil || !bytes.Equal(again, b) {
			t.Fatalf("Encode of Decode of %x: %x, %v", b, again, err)
		}
		hold(t, b)
		hold(t, shaken(dice, b))
	}
}

package module_test

import (
	"bytes"
	"encoding/hex"
	"errors"
	"math"
	"reflect"
	"slices"
	"strings"
	"testing"

	"mandrel/api"
	"mandrel/leb"
	"mandrel/module"
	"mandrel/sect"
)

// decode calls Decode on a copy with spare room, and asks that the copy stayed as it was.
func decode(t *testing.T, b []byte) (api.Module, int, error) {
	t.Helper()
	room := append(bytes.Clone(b), bytes.Repeat([]byte{0x0b}, 16)...)
	was := bytes.Clone(room)
	m, n, err := module.Decode(room[:len(b)])
	if !bytes.Equal(room, was) {
		t.Errorf("Decode(%x) changed it", short(b))
	}
	return m, n, err
}

// short is as much of bytes as is fit to be shown.
func short(b []byte) []byte { return b[:min(len(b), 80)] }

// wantDecoded asks for a module, of all bytes.
func wantDecoded(t *testing.T, name string, b []byte, want api.Module) {
	t.Helper()
	m, n, err := decode(t, b)
	if err != nil || n != len(b) || !equal(m, want) {
		t.Errorf("%s: Decode(%x): %+v, %d, %v, want %+v, %d", name, short(b), m, n, err, want, len(b))
	}
}

// wantWrong asks for an error at a place, with nothing of a module beside it.
func wantWrong(t *testing.T, name string, b []byte, at int, want api.Errno) {
	t.Helper()
	m, n, err := decode(t, b)
	var got api.Errno
	if !errors.As(err, &got) || got != want || n != at || !reflect.ValueOf(m).IsZero() {
		t.Errorf("%s: Decode(%x): %+v, %d, %v, want error %d at %d", name, short(b), m, n, err, int(want), at)
	}
}

// wantMarked asks for an error at the part of a section that has a ! ahead of it (a ! alone: at the end), whatever sections stand ahead of it and behind it.
func wantMarked(t *testing.T, s part, want api.Errno, ahead ...part) {
	t.Helper()
	before, _, _ := strings.Cut(s.parts, "!")
	skipped, _ := hexBytes(before)
	for _, first := range [][]part{nil, {{0, "016e ffff"}}} {
		l := slices.Concat(first, ahead, []part{s})
		b, at := raw(l...)
		wantWrong(t, s.parts, b, at+len(skipped), want)
		wantWrong(t, s.parts+" and a name", append(b, 0, 1, 0), at+len(skipped), want)
		if s.id < 11 {
			wantWrong(t, s.parts+" and another", append(b, 11, 1, 0x80), at+len(skipped), want)
		}
	}
}

// wantEach asks for an error of each of some sections of an ID, at its mark.
func wantEach(t *testing.T, want api.Errno, id byte, l ...string) {
	t.Helper()
	for _, parts := range l {
		wantMarked(t, part{id, parts}, want)
	}
}

// funcs is a section 3 of n functions.
func funcs(n int) part {
	return part{3, hexNumber(n) + strings.Repeat(" 00", n)}
}

func hexNumber(n int) string { return hex.EncodeToString(leb.PutU(nil, uint64(n))) }

// wantCodes asks for an error in the second of two codes, told by its parts, at its mark.
func wantCodes(t *testing.T, want api.Errno, l ...string) {
	t.Helper()
	for _, parts := range l {
		b, _ := hexBytes(parts)
		wantMarked(t, part{10, "02 02 00 0b " + hexNumber(len(b)) + " " + parts}, want, funcs(2))
	}
}

// TestDecode (MO2, MO3): the bytes of modules that can be told.
func TestDecode(t *testing.T) {
	for _, c := range tellings() {
		wantDecoded(t, c.name, whole(c.l...), c.m)
		var between []part
		for _, s := range c.l {
			between = append(between, part{0, "00"}, s, part{0, "02c3a4 43"})
		}
		wantDecoded(t, c.name+" between names", whole(between...), c.m)
	}
}

// TestDecodeOtherTellings (MO2): numbers in more bytes, sections without items, and locals in more runs are the same.
func TestDecodeOtherTellings(t *testing.T) {
	for _, c := range []telling{
		{"sections without items", api.Module{}, []part{{1, "00"}, {2, "00"}, {3, "00"}, {4, "00"}, {5, "8000"}, {6, "00"}, {7, "00"}, {9, "00"}, {10, "00"}, {11, "8080808000"}}},
		{"code of none", api.Module{}, []part{{10, "00"}}},
		{"numbers in more bytes", api.Module{Types: []api.Type{{Params: []api.Kind{api.I32}, Result: api.I64}}}, []part{{1, "8180808000 60 8100 7f 818000 7e"}}},
		{"bounds in more bytes", api.Module{Memories: []api.Limits{{Min: 1, Has: true, Max: 2}}}, []part{{5, "01 01 8100 8280808000"}}},
		{"a value in more bytes", api.Module{Globals: []api.Global{{Kind: api.I32, Init: i32(-1)}, {Kind: api.I64, Init: i64(0)}}}, []part{{6, "02 7f 00 41 ffffffff7f 0b 7e 00 42 80808080808080808000 0b"}}},
		{"runs of nothing", api.Module{Funcs: []api.Func{{Locals: []api.Kind{api.I32, api.I32}}}}, []part{{3, "01 00"}, {10, "01 0d 05 00 7e 01 7f 00 7f 8100 7f 00 7e 0b"}}},
		{"256 runs of nothing", api.Module{Funcs: []api.Func{{}}}, []part{{3, "01 00"}, {10, "01 8304 8002" + strings.Repeat(" 00 7e", 256) + " 0b"}}},
		{"256 locals, and runs of nothing", api.Module{Funcs: []api.Func{{Locals: many(256, api.I32)}}}, []part{{3, "01 00"}, {10, "01 09 03 8002 7f 00 7e 00 7f 0b"}}},
		{"code in more bytes", api.Module{Funcs: []api.Func{{Type: 1, Body: []api.Instr{i32(1)}}}}, []part{{3, "01 8100"}, {10, "01 8600 8000 41 8100 0b"}}},
		{"an else of none", api.Module{Funcs: []api.Func{{Body: []api.Instr{{Op: 4}}}}}, []part{{3, "01 00"}, {10, "01 06 00 04 40 05 0b 0b"}}},
		{"a name in more bytes", api.Module{Exports: []api.Export{{Name: "f"}}}, []part{{7, "01 818000 66 00 00"}}},
	} {
		wantDecoded(t, c.name, whole(c.l...), c.m)
		m, _, _ := module.Decode(whole(c.l...))
		wantTold(t, c.name, m)
	}
}

// TestDecodeSections (MO2): layer 6's errors come first, as that layer tells them.
func TestDecodeSections(t *testing.T) {
	b := whole(rich().l...)
	for n := range len(b) {
		_, at, err := sect.Split(b[:n])
		var want api.Errno
		if errors.As(err, &want) {
			wantWrong(t, "cut off", b[:n], at, want)
		}
	}
	wantWrong(t, "nothing", nil, 0, api.ErrEnd)
	wantWrong(t, "another beginning", []byte("\x00asn"), 3, api.ErrMalformed)
	wantWrong(t, "an ID of none", whole(part{12, ""}), 8, api.ErrMalformed)
	// The sections ahead are wrong too: still layer 6's errors come first.
	wantWrong(t, "an ID once more", whole(part{1, "43"}, part{8, ""}, part{8, ""}), 13, api.ErrMalformed)
	wantWrong(t, "a name that is no text", whole(part{1, "43"}, part{0, "01 ff"}), 13, api.ErrMalformed)
	wantWrong(t, "too few bytes", append(whole(part{1, "43"}), 3, 2, 0), 12, api.ErrEnd)
}

// TestDecodeCut (MO2): a section's contents cut off at each place: ErrEnd at the part that is not there whole.
func TestDecodeCut(t *testing.T) {
	for _, c := range tellings() {
		for i, s := range c.l {
			contents, places := hexBytes(s.parts)
			if c.name == "256 by turns" && s.id == 10 {
				places = []int{0, 1} // its code is told part by part
			}
			for n := range len(contents) {
				cut := part{s.id, hex.EncodeToString(contents[:n])}
				b, at := raw(append(slices.Clone(c.l[:i]), cut)...)
				part, found := slices.BinarySearch(places, n)
				if !found {
					part--
				}
				if s.id == 10 && c.name != "rich" && n > 0 {
					part = 1 // a code that is not there whole is told at its number
				}
				wantWrong(t, c.name+" cut off", b, at+places[part], api.ErrEnd)
			}
		}
	}
}

// TestDecodeCutCode (MO2): code whose own bytes end too early: ErrEnd at the part that is not there whole.
func TestDecodeCutCode(t *testing.T) {
	code, places := hexBytes("02 02 7f 8100 7e 04 7f 41 8001 05 0e 01 8100 00 0b 11 05 00 0b")
	wantDecoded(t, "the whole code", whole(funcs(1), part{10, "01 " + hexNumber(len(code)) + " " + hex.EncodeToString(code)}), api.Module{Funcs: []api.Func{{
		Locals: []api.Kind{api.I32, api.I32, api.I64},
		Body: []api.Instr{
			{Op: 4, Result: api.I32, Body: []api.Instr{i32(128)}, Else: []api.Instr{{Op: 0x0e, Labels: []uint32{1, 0}}}},
			{Op: 0x11, N: 5},
		},
	}}})
	for n := range len(code) {
		i, found := slices.BinarySearch(places, n)
		if !found {
			i--
		}
		kept, gone := hex.EncodeToString(code[:places[i]]), hex.EncodeToString(code[places[i]:n])
		wantCodes(t, api.ErrEnd, kept+" !"+gone)
	}
}

// TestDecodeCodeLength (MO2): code whose bytes are fewer or more than told.
func TestDecodeCodeLength(t *testing.T) {
	for _, c := range []struct {
		parts string
		want  api.Errno
	}{
		{"02 02 00 0b !ffffffff0f", api.ErrEnd},
		{"02 02 00 0b !03 00 0b", api.ErrEnd},
		{"02 02 00 0b !80", api.ErrEnd},
		{"02 02 00 0b !8080808010", api.ErrMalformed},
		{"02 02 00 0b !", api.ErrEnd},
		{"02 02 00 0b 00 !", api.ErrEnd},
		{"02 !07 00 0b 02 00 0b", api.ErrEnd},
		// The code's own end is what counts, not what stands behind it.
		{"02 04 00 0b !02 00 0b", api.ErrMalformed},
		{"02 06 00 0b !02 00 0b 00", api.ErrMalformed},
		{"02 01 00 !0b 02 00 0b", api.ErrEnd},
		{"02 00 !00 0b 02 00 0b", api.ErrEnd},
		{"02 02 01 00 !0b 02 00 0b", api.ErrEnd}, // a run without its kind
		{"02 02 00 0b 02 00 0b !00", api.ErrMalformed},
		{"02 02 00 0b 02 00 0b !02 00 0b", api.ErrMalformed},
	} {
		wantMarked(t, part{10, c.parts}, c.want, funcs(2))
	}
}

// TestDecodeNumbers (MO2): each number, cut off, and of more than its bits.
func TestDecodeNumbers(t *testing.T) {
	ahead := []part{
		{1, ""}, {1, "01 60"}, {1, "01 60 01 7f"}, {2, ""}, {3, ""}, {3, "01"}, {3, "02 00"},
		{4, ""}, {4, "01 70 00"}, {4, "01 70 01"}, {4, "01 70 01 00"}, {5, ""}, {5, "01 00"}, {5, "02 00 00 01 05"},
		{6, ""}, {7, ""}, {7, "01"}, {7, "01 00 03"}, {9, ""}, {9, "01"}, {9, "01 00 41 00 0b"}, {9, "01 00 41 00 0b 02 05"},
		{10, ""}, {11, ""}, {11, "01"}, {11, "01 00 42 00 0b"}, {11, "02 00 42 00 0b 00"},
	}
	for _, s := range ahead {
		wantEach(t, api.ErrEnd, s.id, s.parts+" !", s.parts+" !80", s.parts+" !ffffffff")
		wantEach(t, api.ErrMalformed, s.id, s.parts+" !8080808080", s.parts+" !8080808010 00", s.parts+" !ffffffff1f", s.parts+" !ffffffff7f")
	}
	for _, parts := range []string{"", "01", "02 01 7f", "00 20"} {
		wantCodes(t, api.ErrEnd, parts+" !", parts+" !80", parts+" !ffffffff")
		wantCodes(t, api.ErrMalformed, parts+" !8080808080", parts+" !8080808010 00")
	}
}

// TestDecodeMeaning (MO2): each byte of meaning, of all values.
func TestDecodeMeaning(t *testing.T) {
	for _, c := range []struct {
		s    part
		are  string
		rest string
	}{
		{part{1, "01"}, "\x60", "00 00"},
		{part{4, "02 70 00 00"}, "\x70", "00 00"},
		{part{4, "01 70"}, "\x00\x01", "00 00"},
		{part{5, "01"}, "\x00\x01", "00 00"},
		{part{6, "01 7e"}, "\x00\x01", "41 00 0b"},
		{part{7, "01 0161"}, "\x00\x01\x02\x03", "00"},
	} {
		for v := range 256 {
			parts := c.s.parts + " !" + hex.EncodeToString([]byte{byte(v)}) + " " + c.rest
			if strings.IndexByte(c.are, byte(v)) < 0 {
				wantMarked(t, part{c.s.id, parts}, api.ErrMalformed)
				continue
			}
			// What follows may be one byte too much for it, but this one is well.
			b, at := raw(part{c.s.id, parts})
			before, _ := hexBytes(c.s.parts)
			if _, n, err := module.Decode(b); err != nil && n <= at+len(before) {
				t.Errorf("%s: %v at %d", parts, err, n)
			}
		}
		wantMarked(t, part{c.s.id, c.s.parts + " !"}, api.ErrEnd)
	}
}

// TestDecodeKinds (MO2): a kind, of all values, wherever one stands.
func TestDecodeKinds(t *testing.T) {
	for v := range 256 {
		want := api.ErrMalformed
		switch v {
		case 0x7f, 0x7e:
			continue
		case 0x7d, 0x7c:
			want = api.ErrUnsupported
		}
		k := " !" + hex.EncodeToString([]byte{byte(v)})
		wantEach(t, want, 1, "01 60 01"+k+" 00", "01 60 02 7f"+k, "01 60 00 01"+k, "02 60 00 00 60 01 7e 01"+k)
		wantEach(t, want, 6, "01"+k+" 00 41 00 0b", "02 7f 00 41 00 0b"+k)
		wantCodes(t, want, "01 01"+k+" 0b", "02 01 7f 00"+k)
	}
	wantEach(t, api.ErrEnd, 1, "01 60 01 !", "01 60 02 7f !", "01 60 00 01 !")
	wantEach(t, api.ErrEnd, 6, "01 !")
	wantCodes(t, api.ErrEnd, "01 01 !", "01 00 !")
}

// TestDecodeValues (MO2): a beginning value: its first byte, of all values, its number, its last byte.
func TestDecodeValues(t *testing.T) {
	for _, s := range []part{{6, "01 7f 00"}, {6, "02 7e 00 42 00 0b 7f 01"}, {9, "01 00"}, {11, "01 05"}} {
		for v := range 256 {
			c := hex.EncodeToString([]byte{byte(v)})
			switch {
			case v == 0x43 || v == 0x44:
				wantEach(t, api.ErrUnsupported, s.id, s.parts+" !"+c+" 00 00 00 00 0b 00")
			case v != 0x41 && v != 0x42:
				wantEach(t, api.ErrInvalid, s.id, s.parts+" !"+c+" 00 0b 00")
			}
			if v != 0x0b {
				wantEach(t, api.ErrInvalid, s.id, s.parts+" 41 00 !"+c+" 00", s.parts+" 42 ff00 !"+c+" 0b")
			}
		}
		wantEach(t, api.ErrEnd, s.id, s.parts+" !", s.parts+" 41 !", s.parts+" 42 !", s.parts+" 41 !80", s.parts+" 42 !ffffffffffffffffff", s.parts+" 41 00 !")
		wantEach(t, api.ErrMalformed, s.id,
			s.parts+" 41 !8080808080", s.parts+" 41 !8080808008", s.parts+" 41 !ffffffff0f", s.parts+" 41 !8080808070",
			s.parts+" 42 !80808080808080808080", s.parts+" 42 !80808080808080808001", s.parts+" 42 !ffffffffffffffffff40")
	}
}

// TestDecodeNames (MO2): a name that is no text, that is too long, or is not there whole: all told at its number.
func TestDecodeNames(t *testing.T) {
	wantEach(t, api.ErrMalformed, 7, "01 !01 ff 00 00", "02 0161 00 00 !02 c3 28 00 00", "01 !8100 80 00 00", "01 !03 eda080 00 00", "01 !01 c3 a4 00 00")
	wantEach(t, api.ErrEnd, 7, "01 !01", "01 !05 61 00 00", "02 0161 00 00 !01", "01 !04 ff 00 00", "01 !8002 ff")
	wantEach(t, api.ErrLimit, 7, "01 !8102 "+strings.Repeat("61", 257)+" 00 00", "01 !8102", "01 !ffffffff0f 61", "01 !8102 ff")
	// The rule names ErrMalformed ahead of ErrLimit, where both are so.
	wantEach(t, api.ErrMalformed, 7, "01 !8102 "+strings.Repeat("61", 256)+"ff 00 00")
	wantDecoded(t, "256 bytes", whole(part{7, "01 8002 " + strings.Repeat("61", 256) + " 00 00"}), api.Module{Exports: []api.Export{{Name: strings.Repeat("a", 256)}}})
}

// TestDecodeDatas (MO2): bytes that are not all there, and too many of them.
func TestDecodeDatas(t *testing.T) {
	const ahead = "01 00 41 00 0b "
	wantEach(t, api.ErrEnd, 11, ahead+"!01", ahead+"!02 0b", ahead+"!808004 00", ahead+"!808004 "+strings.Repeat("00", 1<<16-1))
	wantEach(t, api.ErrLimit, 11, ahead+"!818004", ahead+"!ffffffff0f 00", ahead+"!818004 "+strings.Repeat("00", 1<<16+1))
	wantDecoded(t, "65536 bytes", whole(part{11, ahead + "808004 " + strings.Repeat("07", 1<<16)}), api.Module{Datas: []api.Data{{Offset: i32(0), Bytes: many(1<<16, byte(7))}}})
}

// TestDecodeLimits (MO2): the number of items of each list, if it is above 256, whatever follows it.
func TestDecodeLimits(t *testing.T) {
	item := map[byte]string{1: "60 00 00", 3: "00", 4: "70 00 00", 5: "00 00", 6: "7f 00 41 00 0b", 7: "00 00 00", 9: "00 41 00 0b 00", 11: "00 41 00 0b 00"}
	for id, one := range item {
		wantEach(t, api.ErrLimit, id, "!8102", "!ffffffff0f", "!8102"+strings.Repeat(" "+one, 257))
		if id == 3 {
			continue // Funcs without code
		}
		if _, _, err := module.Decode(whole(part{id, "8002" + strings.Repeat(" "+one, 256)})); err != nil {
			t.Errorf("256 items of section %d: %v", id, err)
		}
	}
	wantEach(t, api.ErrLimit, 1, "01 60 !8102", "01 60 !8102"+strings.Repeat(" 7f", 257)+" 00")
	wantEach(t, api.ErrLimit, 9, "01 00 41 00 0b !8102", "01 00 41 00 0b !8102"+strings.Repeat(" 05", 257))
	wantCodes(t, api.ErrLimit, "!8102", "!8102"+strings.Repeat(" 00 7f", 257)+" 0b", "!ffffffff0f 0b")
	wantCodes(t, api.ErrLimit, "01 !8102 7f 0b", "02 8002 7f !01 7f 0b", "02 ff01 7f !02 7f 0b", "02 01 7f !ffffffff0f 7f 0b", "01 !ffffffff0f 7f 0b", "03 8001 7f 8001 7e !01", "01 !8102 7d")
	// Locals are counted by each function.
	wantDecoded(t, "256 locals of each", whole(funcs(2), part{10, "02 05 01 8002 7f 0b 05 01 8002 7e 0b"}),
		api.Module{Funcs: []api.Func{{Locals: many(256, api.I32)}, {Locals: many(256, api.I64)}}})
}

// TestDecodeUnsupported (MO2): imports, a start function, more results than one.
func TestDecodeUnsupported(t *testing.T) {
	wantEach(t, api.ErrUnsupported, 2, "!01 0161 0162 00 00", "!01", "!8002", "!8102", "!ffffffff0f")
	wantEach(t, api.ErrMalformed, 2, "00 !00", "00 !01 0161")
	wantEach(t, api.ErrUnsupported, 8, "!00", "!", "!80", "!ffffffffff")
	wantEach(t, api.ErrUnsupported, 1, "01 60 00 !02 7f 7f", "01 60 00 !02", "01 60 00 !8002", "01 60 00 !8102", "01 60 00 !ffffffff0f", "02 60 00 01 7f 60 00 !02 7c")
	// A start section ahead of codes that are missing, and behind what is wrong.
	wantMarked(t, part{8, "!00"}, api.ErrUnsupported, funcs(1))
	wantWrong(t, "wrong ahead of 8", whole(part{7, "80"}, part{8, "00"}), 10, api.ErrEnd)
}

// TestDecodeLeft (MO2): bytes that are left behind a section's list.
func TestDecodeLeft(t *testing.T) {
	for _, id := range []byte{1, 2, 3, 4, 5, 6, 7, 9, 10, 11} {
		wantEach(t, api.ErrMalformed, id, "00 !00", "00 !80", "8000 !0b 00")
	}
	for i, s := range rich().l {
		wantMarked(t, part{s.id, s.parts + " !00"}, api.ErrMalformed, rich().l[:i]...)
	}
	wantCodes(t, api.ErrMalformed, "00 0b !0b", "00 0b !00", "00 02 40 0b 0b !80", "01 01 7f 0b !05 0b")
}

// TestDecodeCodes (MO2): as many codes as Funcs, and codes at all, if there are Funcs.
func TestDecodeCodes(t *testing.T) {
	for n := range 4 {
		for codes := range 4 {
			if n != codes {
				wantMarked(t, part{10, "!" + hexNumber(codes) + strings.Repeat(" 02 00 0b", codes)}, api.ErrMalformed, funcs(n))
			}
		}
	}
	wantMarked(t, part{10, "!01 02 00 0b"}, api.ErrMalformed)
	wantMarked(t, part{10, "!8102"}, api.ErrMalformed, part{3, "8002" + strings.Repeat(" 00", 256)})
	wantMarked(t, part{10, "!ffffffff0f"}, api.ErrMalformed, funcs(1))
	for _, l := range [][]part{{funcs(1)}, {funcs(2), {0, "00"}}, {{1, "00"}, funcs(3), {7, "00"}, {11, "00"}}} {
		wantWrong(t, "Funcs without code", whole(l...), len(whole(l...)), api.ErrMalformed)
	}
	wantWrong(t, "wrong behind Funcs without code", whole(funcs(1), part{11, "80"}), 14, api.ErrEnd)
	wantDecoded(t, "no Funcs, and no code", whole(part{3, "00"}), api.Module{})
}

// TestDecodeInstructions (MO2): what layer 5 has of instructions, at their places in b.
func TestDecodeInstructions(t *testing.T) {
	wantCodes(t, api.ErrUnsupported, "00 !43", "01 02 7f 01 !92 0b", "00 02 !7d 0b 0b")
	wantCodes(t, api.ErrMalformed, "00 !06 0b", "00 !05 0b", "00 02 !41 0b 0b", "00 3f !01 0b", "00 11 00 !01 0b", "00 41 !ffffffff0f 0b")
	wantCodes(t, api.ErrLimit, "00 0e !8102 00", "00"+strings.Repeat(" 02 40", 64)+" !02", "00"+strings.Repeat(" 01", api.MaxBody)+" !01 0b")
	wantCodes(t, api.ErrEnd, "00 !", "00 01 !", "00 41 !", "00 02 !", "00 02 40 0b !", "00 28 00 !80")
	if _, _, err := module.Decode(whole(funcs(1), part{10, "01 828001 00" + strings.Repeat(" 01", api.MaxBody) + " 0b"})); err != nil {
		t.Errorf("MaxBody instructions: %v", err)
	}
}

// TestDecodeIsNew: what is answered shares nothing with the bytes, nor do its lists with each other, spare room and all.
func TestDecodeIsNew(t *testing.T) {
	b := whole(rich().l...)
	m, _, _ := module.Decode(b)
	for i := range b {
		b[i] = 0xee
	}
	if !equal(m, rich().m) {
		t.Error("Decode kept the bytes")
	}
	b = whole(rich().l...)
	other, _, _ := module.Decode(b)
	m, _, _ = module.Decode(b)
	var lists []reflect.Value
	gather(reflect.ValueOf(m), &lists)
	spans := map[uintptr]bool{}
	for _, l := range lists {
		if l.Cap() == 0 {
			continue
		}
		for i := range l.Cap() {
			at := l.Slice(0, l.Cap()).Index(i).Addr().Pointer()
			if spans[at] {
				t.Fatal("Decode: two lists share memory")
			}
			spans[at] = true
		}
		all := l.Slice(0, l.Cap())
		for i := l.Len(); i < l.Cap(); i++ {
			fill(all.Index(i))
		}
	}
	if !equal(m, rich().m) || !equal(other, rich().m) || !bytes.Equal(b, whole(rich().l...)) {
		t.Error("Decode: spare room is shared")
	}
}

// gather lays all lists within a value into l.
func gather(v reflect.Value, l *[]reflect.Value) {
	switch v.Kind() {
	case reflect.Struct:
		for i := range v.NumField() {
			gather(v.Field(i), l)
		}
	case reflect.Slice:
		*l = append(*l, v)
		for i := range v.Len() {
			gather(v.Index(i), l)
		}
	}
}

// TestDecodeGreat: numbers at their bounds are read as they are.
func TestDecodeGreat(t *testing.T) {
	wantDecoded(t, "bounds", whole(part{4, "01 70 01 ffffffff0f feffffff0f"}), api.Module{Tables: []api.Limits{{Min: math.MaxUint32, Has: true, Max: math.MaxUint32 - 1}}})
	wantDecoded(t, "values", whole(part{6, "02 7f 00 41 ffffffff07 0b 7f 00 42 ffffffffffffffffff00 0b"}), api.Module{Globals: []api.Global{{Kind: api.I32, Init: i32(math.MaxInt32)}, {Kind: api.I32, Init: i64(math.MaxInt64)}}})
	wantDecoded(t, "a type", whole(part{3, "01 ffffffff0f"}, part{10, "01 02 00 0b"}), api.Module{Funcs: []api.Func{{Type: math.MaxUint32}}})
}

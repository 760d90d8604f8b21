package module_test

import (
	"bytes"
	"encoding/hex"
	"errors"
	"math"
	"reflect"
	"slices"
	"strings"
	"testing"

	"mandrel/api"
	"mandrel/leb"
	"mandrel/module"
)

// part is a section: its ID, and its contents, hexadecimal, with a blank between any two parts. (What is told by its number alone, as a name is, or a code as a whole, is one with it.)
type part struct {
	id    byte
	parts string
}

// telling is a module, and the sections that tell it.
type telling struct {
	name string
	m    api.Module
	l    []part
}

// hexBytes is the bytes of parts, and the place of each part's first byte. A ! ahead of a part means nothing here.
func hexBytes(parts string) (b []byte, places []int) {
	for _, p := range strings.Fields(parts) {
		part, err := hex.DecodeString(strings.TrimPrefix(p, "!"))
		if err != nil {
			panic(err)
		}
		places = append(places, len(b))
		b = append(b, part...)
	}
	return b, places
}

// raw lays the eight bytes, and sections behind them; at is where the last one's contents begin.
func raw(l ...part) (b []byte, at int) {
	b = []byte("\x00asm\x01\x00\x00\x00")
	at = len(b)
	for _, p := range l {
		contents, _ := hexBytes(p.parts)
		b = leb.PutU(append(b, p.id), uint64(len(contents)))
		at = len(b)
		b = append(b, contents...)
	}
	return b, at
}

// whole is the bytes of sections.
func whole(l ...part) []byte {
	b, _ := raw(l...)
	return b
}

func i32(n int64) api.Instr { return api.Instr{Op: 0x41, N: n} }
func i64(n int64) api.Instr { return api.Instr{Op: 0x42, N: n} }

// rich is a module with some of all, and no two numbers in it that might be taken for each other.
func rich() telling {
	m := api.Module{
		Types: []api.Type{
			{Params: []api.Kind{api.I32, api.I64}, Result: api.I64},
			{},
			{Params: []api.Kind{api.I64}},
		},
		Funcs: []api.Func{
			{Type: 2, Locals: []api.Kind{api.I32, api.I32, api.I64, api.I32}, Body: []api.Instr{{Op: 0x20, N: 200}, {Op: 0x1a}}},
			{Type: 300, Body: []api.Instr{{Op: 2, Result: api.I32, Body: []api.Instr{i32(-5)}}, {Op: 0x28, Align: 2, Offset: 130}}},
			{Type: 1},
		},
		Tables:   []api.Limits{{Min: 9}, {Min: 10, Has: true, Max: 500}},
		Memories: []api.Limits{{Min: 11, Has: true, Max: 12}, {Min: 600}},
		Globals:  []api.Global{{Kind: api.I32, Init: i32(-100)}, {Kind: api.I64, Mut: true, Init: i64(1 << 40)}},
		Exports:  []api.Export{{Name: "f", What: 0, Index: 13}, {Name: "tä", What: 1, Index: 700}, {Name: "", What: 2}, {Name: "g", What: 3, Index: 14}},
		Elems:    []api.Elem{{Table: 15, Offset: i32(16), Funcs: []uint32{17, 800, 18}}, {Offset: i64(-1)}},
		Datas:    []api.Data{{Memory: 900, Offset: i32(19), Bytes: []byte{0xff, 0, 0x0b}}, {Offset: i32(0)}},
	}
	return telling{"rich", m, []part{
		{1, "03 60 02 7f 7e 01 7e 60 00 00 60 01 7e 00"},
		{3, "03 02 ac02 01"},
		{4, "02 70 00 09 70 01 0a f403"},
		{5, "02 01 0b 0c 00 d804"},
		{6, "02 7f 00 41 9c7f 0b 7e 01 42 808080808020 0b"},
		{7, "04 0166 00 0d 0374c3a4 01 bc05 00 02 00 0167 03 0e"},
		{9, "02 0f 41 10 0b 03 11 a006 12 00 42 7f 0b 00"},
		{10, "03 0c03027f017e017f20c8011a0b 0b00027f417b0b280282010b 02000b"},
		{11, "02 8407 41 13 0b 03ff000b 00 41 00 0b 00"},
	}}
}

func tellings() []telling {
	return slices.Concat([]telling{{name: "nothing"}, rich()}, sectionTellings(), localTellings())
}

// sectionTellings are modules of one section, or of one list, each.
func sectionTellings() []telling {
	return []telling{
		{"types", api.Module{Types: []api.Type{{Result: api.I32}}}, []part{{1, "01 60 00 01 7f"}}},
		{"tables", api.Module{Tables: []api.Limits{{Min: math.MaxUint32}}}, []part{{4, "01 70 00 ffffffff0f"}}},
		{"a most of 0", api.Module{Tables: []api.Limits{{Has: true}}}, []part{{4, "01 70 01 00 00"}}},
		{"a least above the most", api.Module{Memories: []api.Limits{{Min: 2, Has: true, Max: 1}}}, []part{{5, "01 01 02 01"}}},
		{"globals", api.Module{Globals: []api.Global{{Kind: api.I64, Init: i32(math.MinInt32)}}}, []part{{6, "01 7e 00 41 8080808078 0b"}}},
		{"a great one", api.Module{Globals: []api.Global{{Kind: api.I32, Mut: true, Init: i64(math.MinInt64)}}}, []part{{6, "01 7f 01 42 8080808080808080807f 0b"}}},
		{"exports", api.Module{Exports: []api.Export{{Name: "\x00", What: 3, Index: math.MaxUint32}}}, []part{{7, "01 0100 03 ffffffff0f"}}},
		{"elems", api.Module{Elems: []api.Elem{{Table: math.MaxUint32, Offset: i32(0), Funcs: []uint32{math.MaxUint32}}}}, []part{{9, "01 ffffffff0f 41 00 0b 01 ffffffff0f"}}},
		{"datas", api.Module{Datas: []api.Data{{Memory: math.MaxUint32, Offset: i32(0)}}}, []part{{11, "01 ffffffff0f 41 00 0b 00"}}},
		{"two datas", api.Module{Datas: []api.Data{{Offset: i32(0), Bytes: []byte{0x0b}}, {Offset: i64(2)}}}, []part{{11, "02 00 41 00 0b 010b 00 42 02 0b 00"}}},
	}
}

// localTellings are functions whose locals go by runs.
func localTellings() []telling {
	var by []api.Kind
	for i := range 256 {
		by = append(by, [...]api.Kind{api.I32, api.I64}[i%2])
	}
	locals := func(l ...api.Kind) api.Module {
		return api.Module{Funcs: []api.Func{{Locals: l}}}
	}
	return []telling{
		{"no locals", locals(), []part{{3, "01 00"}, {10, "01 02 00 0b"}}},
		{"one", locals(api.I64), []part{{3, "01 00"}, {10, "01 04 01 01 7e 0b"}}},
		{"two of one kind", locals(api.I32, api.I32), []part{{3, "01 00"}, {10, "01 04 01 02 7f 0b"}}},
		{"two of two", locals(api.I64, api.I32), []part{{3, "01 00"}, {10, "01 06 02 01 7e 01 7f 0b"}}},
		{"256 of one kind", locals(slices.Repeat([]api.Kind{api.I64}, 256)...), []part{{3, "01 00"}, {10, "01 05 01 8002 7e 0b"}}},
		{"256 by turns", locals(by...), []part{{3, "01 00"}, {10, "01 8304 8002" + strings.Repeat(" 01 7f 01 7e", 128) + " 0b"}}},
	}
}

// tidy is a copy that shares nothing, in which empty lists are nil.
func tidy(m api.Module) api.Module { return tidyValue(reflect.ValueOf(m)).Interface().(api.Module) }

func tidyValue(v reflect.Value) reflect.Value {
	out := reflect.New(v.Type()).Elem()
	switch v.Kind() {
	case reflect.Struct:
		for i := range v.NumField() {
			out.Field(i).Set(tidyValue(v.Field(i)))
		}
	case reflect.Slice:
		for i := range v.Len() {
			out = reflect.Append(out, tidyValue(v.Index(i)))
		}
	default:
		out.Set(v)
	}
	return out
}

// equal is Same, by another way.
func equal(a, b api.Module) bool { return reflect.DeepEqual(tidy(a), tidy(b)) }

// spared is a copy, each list of which has room for one item more, and that one isn't zero.
func spared(m api.Module) api.Module {
	return sparedValue(reflect.ValueOf(m)).Interface().(api.Module)
}

func sparedValue(v reflect.Value) reflect.Value {
	out := reflect.New(v.Type()).Elem()
	switch v.Kind() {
	case reflect.Struct:
		for i := range v.NumField() {
			out.Field(i).Set(sparedValue(v.Field(i)))
		}
	case reflect.Slice:
		out = reflect.MakeSlice(v.Type(), v.Len()+1, v.Len()+1)
		for i := range v.Len() {
			out.Index(i).Set(sparedValue(v.Index(i)))
		}
		fill(out.Index(v.Len()))
		out = out.Slice(0, v.Len())
	default:
		out.Set(v)
	}
	return out
}

// fill lays something into an item that isn't zero.
func fill(v reflect.Value) {
	switch v.Kind() {
	case reflect.Struct:
		for i := range v.NumField() {
			fill(v.Field(i))
		}
	case reflect.Uint8, reflect.Uint32:
		v.SetUint(0xee)
	case reflect.Int64:
		v.SetInt(0xee)
	}
}

// roomy is a copy in which each list has its spare room too, so that what was laid there is seen.
func roomy(v reflect.Value) reflect.Value {
	out := reflect.New(v.Type()).Elem()
	switch v.Kind() {
	case reflect.Struct:
		for i := range v.NumField() {
			out.Field(i).Set(roomy(v.Field(i)))
		}
	case reflect.Slice:
		all := v.Slice(0, v.Cap())
		for i := range all.Len() {
			out = reflect.Append(out, roomy(all.Index(i)))
		}
	default:
		out.Set(v)
	}
	return out
}

// unchanged calls do with a copy of a module, and asks that nothing of it was changed, not its spare room either.
func unchanged(t *testing.T, name string, m api.Module, do func(m api.Module)) {
	t.Helper()
	given := spared(m)
	before := roomy(reflect.ValueOf(given)).Interface()
	do(given)
	if !reflect.DeepEqual(roomy(reflect.ValueOf(given)).Interface(), before) {
		t.Errorf("%s: what was handed in was changed", name)
	}
}

// wantErr holds an error against the number that the document names.
func wantErr(t *testing.T, name string, err error, want api.Errno) {
	t.Helper()
	var got api.Errno
	if !errors.As(err, &got) || got != want {
		t.Errorf("%s: error %v, want %d", name, err, int(want))
	}
}

// wantTold asks that a module can be told, and is read back.
func wantTold(t *testing.T, name string, m api.Module) {
	t.Helper()
	unchanged(t, name, m, func(m api.Module) {
		if err := module.Check(m); err != nil {
			t.Errorf("%s: Check: %v", name, err)
		}
		b, err := module.Encode(m)
		if err != nil {
			t.Errorf("%s: Encode: %v", name, err)
		}
		back, n, err := module.Decode(b)
		if err != nil || n != len(b) || !equal(back, m) || !module.Same(back, m) {
			t.Errorf("%s: Decode of Encode: %d of %d, %v", name, n, len(b), err)
		}
	})
}

// wantUntold asks that a module can't be told.
func wantUntold(t *testing.T, name string, m api.Module) {
	t.Helper()
	unchanged(t, name, m, func(m api.Module) {
		wantErr(t, name+": Check", module.Check(m), api.ErrArg)
		b, err := module.Encode(m)
		wantErr(t, name+": Encode", err, api.ErrArg)
		if len(b) != 0 {
			t.Errorf("%s: Encode: %x beside an error", name, b)
		}
	})
}

// TestEncode (MO1): the sections in their order, those alone that have items, numbers in the fewest bytes, locals in the fewest runs.
func TestEncode(t *testing.T) {
	for _, c := range tellings() {
		want := whole(c.l...)
		unchanged(t, c.name, c.m, func(m api.Module) {
			if b, err := module.Encode(m); err != nil || !bytes.Equal(b, want) {
				t.Errorf("%s: Encode: %x, %v, want %x", c.name, b, err, want)
			}
		})
		wantTold(t, c.name, c.m)
	}
}

// TestEncodeIsNew: what is answered shares nothing with what was handed in.
func TestEncodeIsNew(t *testing.T) {
	m := rich().m
	was := tidy(m)
	first, _ := module.Encode(m)
	kept := bytes.Clone(first)
	again, _ := module.Encode(m)
	for i := range first[:cap(first)] {
		first[:cap(first)][i] = 0xee
	}
	if !equal(m, was) || !bytes.Equal(again, kept) {
		t.Error("Encode: what it answered is not its own")
	}
}

// many is a list of n items.
func many[T any](n int, item T) []T { return slices.Repeat([]T{item}, n) }

// TestLists (MO1): each list of 256 items, and of one more.
func TestLists(t *testing.T) {
	data := api.Data{Offset: i32(0)}
	lists := map[string]func(n int) api.Module{
		"Types":    func(n int) api.Module { return api.Module{Types: many(n, api.Type{})} },
		"Funcs":    func(n int) api.Module { return api.Module{Funcs: many(n, api.Func{})} },
		"Tables":   func(n int) api.Module { return api.Module{Tables: many(n, api.Limits{})} },
		"Memories": func(n int) api.Module { return api.Module{Memories: many(n, api.Limits{})} },
		"Globals":  func(n int) api.Module { return api.Module{Globals: many(n, api.Global{Kind: api.I32, Init: i32(0)})} },
		"Exports":  func(n int) api.Module { return api.Module{Exports: many(n, api.Export{})} },
		"Elems":    func(n int) api.Module { return api.Module{Elems: many(n, api.Elem{Offset: i32(0)})} },
		"Datas":    func(n int) api.Module { return api.Module{Datas: many(n, data)} },
		"Params":   func(n int) api.Module { return api.Module{Types: []api.Type{{Params: many(n, api.I64)}}} },
		"Locals":   func(n int) api.Module { return api.Module{Funcs: []api.Func{{Locals: many(n, api.I64)}}} },
		"Elem.Funcs": func(n int) api.Module {
			return api.Module{Elems: []api.Elem{{Offset: i32(0), Funcs: many(n, uint32(7))}}}
		},
		"Name": func(n int) api.Module { return api.Module{Exports: []api.Export{{Name: strings.Repeat("x", n)}}} },
		"a Name of runes": func(n int) api.Module {
			return api.Module{Exports: []api.Export{{Name: strings.Repeat("ä", n/2) + strings.Repeat("x", n%2)}}}
		},
	}
	for name, list := range lists {
		wantTold(t, "255 "+name, list(255))
		wantTold(t, "256 "+name, list(256))
		wantUntold(t, "257 "+name, list(257))
		wantUntold(t, "1000 "+name, list(1000))
	}
	bytesOf := func(n int) api.Module {
		return api.Module{Datas: []api.Data{{Offset: i32(0), Bytes: many(n, byte(0xfe))}}}
	}
	wantTold(t, "257 bytes", bytesOf(257))
	wantTold(t, "65536 bytes", bytesOf(1<<16))
	wantUntold(t, "65537 bytes", bytesOf(1<<16+1))
}

// TestKinds (MO1): kinds, flags and numbers of all values, each where it may stand and where it may not.
func TestKinds(t *testing.T) {
	for c := range 256 {
		k := api.Kind(c)
		is := k == api.I32 || k == api.I64
		ask := func(name string, can bool, m api.Module) {
			t.Helper()
			if can {
				wantTold(t, name, m)
			} else {
				wantUntold(t, name, m)
			}
		}
		ask("a Param", is, api.Module{Types: []api.Type{{Params: []api.Kind{api.I32, k}}}})
		ask("a Result", is || k == api.None, api.Module{Types: []api.Type{{Result: k}}})
		ask("a Local", is, api.Module{Funcs: []api.Func{{Locals: []api.Kind{api.I64, k}}}})
		ask("a Global", is, api.Module{Globals: []api.Global{{Kind: k, Init: i32(1)}}})
		ask("What", c <= 3, api.Module{Exports: []api.Export{{What: byte(c)}}})
		op := api.Instr{Op: byte(c)}
		ask("Init", c == 0x41 || c == 0x42, api.Module{Globals: []api.Global{{Kind: api.I32, Init: op}}})
		ask("an Offset of an Elem", c == 0x41 || c == 0x42, api.Module{Elems: []api.Elem{{Offset: op}}})
		ask("an Offset of a Data", c == 0x41 || c == 0x42, api.Module{Datas: []api.Data{{Offset: op}}})
	}
}

// TestUntold (MO1): what can't be told, in each place where it may stand, behind something that can.
func TestUntold(t *testing.T) {
	nest := []api.Instr(nil)
	for range 65 {
		nest = []api.Instr{{Op: 2, Body: nest}}
	}
	values := map[string]api.Instr{
		"a const of I32 above":     i32(math.MaxInt32 + 1),
		"a const of I32 below":     i32(math.MinInt32 - 1),
		"a const with an Align":    {Op: 0x41, Align: 1},
		"a const with an Offset":   {Op: 0x42, Offset: 1},
		"a const with a Result":    {Op: 0x42, Result: api.I32},
		"a const with Labels":      {Op: 0x41, Labels: []uint32{0}},
		"a const with a Body":      {Op: 0x41, Body: []api.Instr{{Op: 1}}},
		"a const with an Else":     {Op: 0x41, Else: []api.Instr{{Op: 1}}},
		"another instruction":      {Op: 0x23, N: 0},
		"a const of I64 in itself": {Op: 2, Body: []api.Instr{i64(0)}},
	}
	for name, v := range values {
		wantUntold(t, "Init "+name, api.Module{Globals: []api.Global{{Kind: api.I32, Init: i32(0)}, {Kind: api.I32, Init: v}}})
		wantUntold(t, "Elem "+name, api.Module{Elems: []api.Elem{{Offset: i32(0)}, {Offset: v}}})
		wantUntold(t, "Data "+name, api.Module{Datas: []api.Data{{Offset: i32(0)}, {Offset: v}}})
	}
	bodies := map[string][]api.Instr{
		"no instruction":       {{Op: 0x0b}},
		"one of points":        {{Op: 0x43}},
		"an index below 0":     {{Op: 0x20, N: -1}},
		"65 blocks in another": nest,
		"too many":             many(api.MaxBody+1, api.Instr{Op: 1}),
		"no labels":            {{Op: 0x0e}},
	}
	for name, body := range bodies {
		wantUntold(t, name, api.Module{Funcs: []api.Func{{}, {Body: body}}})
	}
	wantTold(t, "64 blocks in another", api.Module{Funcs: []api.Func{{Body: nest[0].Body}}})
	wantTold(t, "MaxBody", api.Module{Funcs: []api.Func{{Body: many(api.MaxBody, api.Instr{Op: 1})}}})
	wantUntold(t, "a table's Max without Has", api.Module{Tables: []api.Limits{{}, {Min: 1, Max: 1}}})
	wantUntold(t, "a memory's Max without Has", api.Module{Memories: []api.Limits{{}, {Min: 1, Max: math.MaxUint32}}})
	for _, name := range []string{"\x80", "a\xff", "\xc3", "\xed\xa0\x80", "\xf4\x90\x80\x80", "\xc0\x80"} {
		wantUntold(t, "a name that is no text", api.Module{Exports: []api.Export{{}, {Name: name}}})
	}
	for _, name := range []string{"\x00", "\xed\x9f\xbf", "\xf4\x8f\xbf\xbf", "two words"} {
		wantTold(t, "a name", api.Module{Exports: []api.Export{{Name: name}, {Name: name}}})
	}
}

// partings are changes of the rich module: one item or one field each.
func partings() map[string]func(m *api.Module) {
	return map[string]func(m *api.Module){
		"no Types":        func(m *api.Module) { m.Types = nil },
		"fewer Types":     func(m *api.Module) { m.Types = m.Types[:2] },
		"Types by turns":  func(m *api.Module) { slices.Reverse(m.Types) },
		"fewer Params":    func(m *api.Module) { m.Types[2].Params = nil },
		"a Param":         func(m *api.Module) { m.Types[0].Params[1] = api.I32 },
		"a Result":        func(m *api.Module) { m.Types[0].Result = api.I32 },
		"no Result":       func(m *api.Module) { m.Types[0].Result = api.None },
		"fewer Funcs":     func(m *api.Module) { m.Funcs = m.Funcs[:2] },
		"a Func's Type":   func(m *api.Module) { m.Funcs[0].Type++ },
		"fewer Locals":    func(m *api.Module) { m.Funcs[0].Locals = m.Funcs[0].Locals[:3] },
		"a Local":         func(m *api.Module) { m.Funcs[0].Locals[1] = api.I64 },
		"fewer of a Body": func(m *api.Module) { m.Funcs[0].Body = m.Funcs[0].Body[:1] },
		"a Body's N":      func(m *api.Module) { m.Funcs[0].Body[0].N++ },
		"within a block":  func(m *api.Module) { m.Funcs[1].Body[0].Body[0].N-- },
		"a block's kind":  func(m *api.Module) { m.Funcs[1].Body[0].Result = api.None },
		"fewer Tables":    func(m *api.Module) { m.Tables = m.Tables[:1] },
		"a table's Min":   func(m *api.Module) { m.Tables[0].Min++ },
		"a table's Max":   func(m *api.Module) { m.Tables[1].Max++ },
		"a table's Has":   func(m *api.Module) { m.Tables[0].Has = true },
		"more Memories":   func(m *api.Module) { m.Memories = append(m.Memories, api.Limits{}) },
		"a memory's Min":  func(m *api.Module) { m.Memories[1].Min-- },
		"a memory's Max":  func(m *api.Module) { m.Memories[0].Max = 0 },
		"a memory's Has":  func(m *api.Module) { m.Memories[1].Has = true },
		"no Max told":     func(m *api.Module) { m.Memories[1].Max = 1 },
		"fewer Globals":   func(m *api.Module) { m.Globals = m.Globals[1:] },
		"a global's Kind": func(m *api.Module) { m.Globals[0].Kind = api.I64 },
		"Mut":             func(m *api.Module) { m.Globals[0].Mut = true },
		"Init's N":        func(m *api.Module) { m.Globals[0].Init.N++ },
		"Init's Op":       func(m *api.Module) { m.Globals[0].Init.Op = 0x42 },
		"Init's Align":    func(m *api.Module) { m.Globals[0].Init.Align++ },
		"Init's Labels":   func(m *api.Module) { m.Globals[0].Init.Labels = []uint32{0} },
		"fewer Exports":   func(m *api.Module) { m.Exports = m.Exports[:3] },
		"a Name":          func(m *api.Module) { m.Exports[2].Name = " " },
		"What":            func(m *api.Module) { m.Exports[0].What = 1 },
		"an Index":        func(m *api.Module) { m.Exports[3].Index++ },
		"fewer Elems":     func(m *api.Module) { m.Elems = m.Elems[:1] },
		"an elem's Table": func(m *api.Module) { m.Elems[1].Table++ },
		"an elem's place": func(m *api.Module) { m.Elems[1].Offset.N++ },
		"an elem's Func":  func(m *api.Module) { m.Elems[0].Funcs[2]++ },
		"more of an Elem": func(m *api.Module) { m.Elems[1].Funcs = []uint32{0} },
		"fewer Datas":     func(m *api.Module) { m.Datas = m.Datas[:1] },
		"a data's Memory": func(m *api.Module) { m.Datas[1].Memory++ },
		"a data's place":  func(m *api.Module) { m.Datas[0].Offset.Op = 0x42 },
		"a data's byte":   func(m *api.Module) { m.Datas[0].Bytes[2]++ },
		"more of a Data":  func(m *api.Module) { m.Datas[1].Bytes = []byte{0} },
	}
}

// TestSame (MO1): modules that are the same, and such as part in one item or one field.
func TestSame(t *testing.T) {
	for _, c := range tellings() {
		unchanged(t, c.name, c.m, func(m api.Module) {
			if !module.Same(m, tidy(m)) || !module.Same(tidy(m), m) {
				t.Errorf("%s is not the same as itself", c.name)
			}
		})
	}
	for name, part := range partings() {
		m := rich().m
		part(&m)
		unchanged(t, name, m, func(m api.Module) {
			if module.Same(m, rich().m) || module.Same(rich().m, m) {
				t.Errorf("%s: is the same", name)
			}
		})
		if !module.Same(m, tidy(m)) {
			t.Errorf("%s: is not the same as itself", name)
		}
	}
}

// TestSameEmpty: nil and the empty list are the same.
func TestSameEmpty(t *testing.T) {
	empty := api.Module{
		Types: []api.Type{}, Funcs: []api.Func{}, Tables: []api.Limits{}, Memories: []api.Limits{},
		Globals: []api.Global{}, Exports: []api.Export{}, Elems: []api.Elem{}, Datas: []api.Data{},
	}
	inner := func(k []api.Kind, l []api.Instr, n []uint32, b []byte) api.Module {
		in := api.Instr{Op: 0x41, Body: l, Else: l, Labels: n}
		return api.Module{
			Types:   []api.Type{{Params: k}},
			Funcs:   []api.Func{{Locals: k, Body: l}},
			Globals: []api.Global{{Kind: api.I32, Init: in}},
			Elems:   []api.Elem{{Offset: in, Funcs: n}},
			Datas:   []api.Data{{Offset: in, Bytes: b}},
		}
	}
	full, bare := inner([]api.Kind{}, []api.Instr{}, []uint32{}, []byte{}), inner(nil, nil, nil, nil)
	if !module.Same(empty, api.Module{}) || !module.Same(api.Module{}, empty) || !module.Same(full, bare) || !module.Same(bare, full) {
		t.Error("nil and the empty list are not the same")
	}
	wantTold(t, "empty lists", empty)
	wantTold(t, "empty lists within", full)
	a, _ := module.Encode(full)
	b, _ := module.Encode(bare)
	if !bytes.Equal(a, b) {
		t.Errorf("Encode: %x of empty lists, %x of nil", a, b)
	}
}

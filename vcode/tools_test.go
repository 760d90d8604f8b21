package vcode_test

import (
	"errors"
	"fmt"
	"reflect"
	"slices"
	"testing"

	"mandrel/api"
	"mandrel/notation"
	"mandrel/vcode"
)

// The numbers that these tests name.
const (
	opConst  = 0x42
	opReturn = 0x0f
	opTrap   = 0x00
	opCall   = 0x10
	opPick   = 0x11
	opGet    = 0x23
	opSet    = 0x24
	opSelect = 0x1b
	opLoad   = 0x28
	opStore  = 0x36
	opSize   = 0x3f
	opGrow   = 0x40
	opAdd    = 0x6a
)

// benchModule is a module that has some of all.
func benchModule() api.Module {
	return api.Module{
		Types: []api.Type{
			{Params: []api.Kind{api.I32, api.I64}, Result: api.I64},
			{},
			{Params: []api.Kind{api.I32}},
			{Result: api.I32},
		},
		Funcs:    []api.Func{{Type: 0}, {Type: 1}, {Type: 2}, {Type: 3}, {Type: 4}},
		Tables:   []api.Limits{{Min: 3}},
		Memories: []api.Limits{{Min: 1}},
		Globals:  []api.Global{{Kind: api.I32, Mut: true}, {Kind: api.I64}},
	}
}

// benchCode is code for the function 0 of benchModule that has some of all.
func benchCode() vcode.Code {
	return notation.Virtual(`regs 6 params 2 result
		block 0 depth 0
		  r2 = const -5
		  r3 = move r2
		  r3 = i64.add r3 r2
		  r4 = i32.eqz r3
		  r5 = select r3 r2 r4
		  r5 = i64.load r4 +8
		  i32.store8 r4 r5 +4294967295
		  branch r4 -> 1 2
		block 1 depth 1
		  r0 = memory.size
		  r0 = memory.grow r0
		  r1 = global.get 1
		  global.set r1 0
		  r1 = call r0 r1 0
		  call 1
		  table r1 -> 1 2 3
		block 2 depth 64
		  call_indirect r3 1
		  r2 = call_indirect r3 r0 r1 0
		  jump -> 1
		block 3 depth 2
		  return r5
		block 4 depth 0
		  unreachable`)
}

// family is instructions that take and give likewise, as chapter 11 lists them.
type family struct {
	first, last byte
	takes       int
	gives       string // yes, no, either
	number      string // any, index, no
}

var families = []family{
	{0x42, 0x42, 0, "yes", "any"}, // const, move
	{0xc0, 0xc0, 1, "yes", "no"},
	{0x45, 0x45, 1, "yes", "no"}, // those of layer 2, of one operand
	{0x50, 0x50, 1, "yes", "no"},
	{0x67, 0x69, 1, "yes", "no"},
	{0x79, 0x7b, 1, "yes", "no"},
	{0xa7, 0xa7, 1, "yes", "no"},
	{0xac, 0xad, 1, "yes", "no"},
	{0x46, 0x4f, 2, "yes", "no"}, // of two
	{0x51, 0x5a, 2, "yes", "no"},
	{0x6a, 0x78, 2, "yes", "no"},
	{0x7c, 0x8a, 2, "yes", "no"},
	{0x1b, 0x1b, 3, "yes", "no"},
	{0x28, 0x29, 1, "yes", "no"}, // loads
	{0x2c, 0x35, 1, "yes", "no"},
	{0x36, 0x37, 2, "no", "no"}, // stores
	{0x3a, 0x3e, 2, "no", "no"},
	{0x3f, 0x3f, 0, "yes", "no"},
	{0x40, 0x40, 1, "yes", "no"},
	{0x23, 0x23, 0, "yes", "index"},
	{0x24, 0x24, 1, "no", "index"},
	{0x10, 0x10, 0, "either", "index"},
	{0x11, 0x11, 1, "either", "index"},
	{0xc1, 0xc1, 0, "no", "no"}, // ends
	{0xc2, 0xc3, 1, "no", "no"},
	{0x0f, 0x0f, 0, "no", "no"}, // and one more, if Result
	{0x00, 0x00, 0, "no", "no"},
}

// familyOf is the one that an instruction is of, if it is one.
func familyOf(op byte) (family, bool) {
	i := slices.IndexFunc(families, func(f family) bool { return f.first <= op && op <= f.last })
	if i < 0 {
		return family{}, false
	}
	return families[i], true
}

func isEnd(op byte) bool { return slices.Contains([]byte{0x00, 0x0f, 0xc1, 0xc2, 0xc3}, op) }

func isAccess(op byte) bool { return 0x28 <= op && op <= 0x3e }

// secondMay is a second reading of when code may be.
func secondMay(c vcode.Code) bool {
	count := 0
	for _, b := range c.Blocks {
		count += len(b.Ins)
	}
	ok := 0 <= c.Params && c.Params <= c.Regs && c.Regs <= 1024
	ok = ok && 1 <= len(c.Blocks) && len(c.Blocks) <= 4096 && count <= 16384
	for _, b := range c.Blocks {
		ok = ok && secondBlockMay(c, b)
	}
	return ok
}

func secondBlockMay(c vcode.Code, b vcode.Block) bool {
	ends := 0
	for _, in := range b.Ins {
		if isEnd(in.Op) {
			ends++
		}
		if !secondInsMay(c, in) {
			return false
		}
	}
	if ends != 1 || !isEnd(b.Ins[len(b.Ins)-1].Op) || b.Depth < 0 || b.Depth > 64 {
		return false
	}
	for _, n := range b.Next {
		if n < 0 || n >= len(c.Blocks) {
			return false
		}
	}
	least, most := 0, 0
	switch b.Ins[len(b.Ins)-1].Op {
	case 0xc1:
		least, most = 1, 1
	case 0xc2:
		least, most = 2, 2
	case 0xc3:
		least, most = 1, 257
	}
	return least <= len(b.Next) && len(b.Next) <= most
}

func secondInsMay(c vcode.Code, in vcode.Ins) bool {
	f, ok := familyOf(in.Op)
	if !ok {
		return false
	}
	if in.Op == opReturn && c.Result {
		f.takes++
	}
	if in.Op == opCall || in.Op == opPick {
		ok = len(in.Src) >= f.takes
	} else {
		ok = len(in.Src) == f.takes
	}
	for _, r := range in.Src {
		ok = ok && 0 <= r && r < c.Regs
	}
	switch f.gives {
	case "yes":
		ok = ok && 0 <= in.Dst && in.Dst < c.Regs
	case "no":
		ok = ok && in.Dst == -1
	case "either":
		ok = ok && -1 <= in.Dst && in.Dst < c.Regs
	}
	switch f.number {
	case "index":
		ok = ok && in.N >= 0
	case "no":
		ok = ok && in.N == 0
	}
	return ok && (in.Offset == 0 || isAccess(in.Op))
}

// told is all of a value, as a text: it shares nothing with it.
func told(v any) string { return fmt.Sprintf("%#v", v) }

// number is that of an error; 0 of none, -1 of one that has no number.
func number(err error) api.Errno {
	if err == nil {
		return 0
	}
	var n api.Errno
	if !errors.As(err, &n) {
		return -1
	}
	return n
}

// wantCheck holds Check, and what the others say of code that may not be, against what is wanted.
func wantCheck(t *testing.T, what string, c vcode.Code, may bool) {
	t.Helper()
	before := told(c)
	want := api.Errno(0)
	if !may {
		want = api.ErrArg
	}
	if got := number(vcode.Check(c)); got != want {
		t.Errorf("%s: Check says %d, want %d", what, got, want)
	}
	if may != secondMay(c) {
		t.Errorf("%s: by the second reading it is %v that it may be", what, secondMay(c))
	}
	if !may {
		if err := vcode.Fits(benchModule(), 0, c); number(err) != api.ErrArg {
			t.Errorf("%s: Fits says %v", what, err)
		}
		if s, err := vcode.Text(c); s != "" || number(err) != api.ErrArg {
			t.Errorf("%s: Text says %.40q, %v", what, s, err)
		}
	}
	if told(c) != before {
		t.Errorf("%s: the code was changed", what)
	}
}

// leaves hands on each number and bool within a value that can be set, with the way to it.
func leaves(v reflect.Value, way string, visit func(way string, leaf reflect.Value)) {
	switch v.Kind() {
	case reflect.Struct:
		for i := range v.NumField() {
			leaves(v.Field(i), way+"."+v.Type().Field(i).Name, visit)
		}
	case reflect.Slice:
		for i := range v.Len() {
			leaves(v.Index(i), way+"."+fmt.Sprint(i), visit)
		}
	default:
		visit(way, v)
	}
}

// lists hands on each list within a value.
func lists(v reflect.Value, way string, visit func(way string, list reflect.Value)) {
	switch v.Kind() {
	case reflect.Struct:
		for i := range v.NumField() {
			lists(v.Field(i), way+"."+v.Type().Field(i).Name, visit)
		}
	case reflect.Slice:
		visit(way, v)
		for i := range v.Len() {
			lists(v.Index(i), way+"."+fmt.Sprint(i), visit)
		}
	}
}

// alter makes another one of a number or a bool.
func alter(leaf reflect.Value) {
	switch {
	case leaf.Kind() == reflect.Bool:
		leaf.SetBool(!leaf.Bool())
	case leaf.CanInt():
		leaf.SetInt(leaf.Int() + 1)
	default:
		leaf.SetUint(leaf.Uint() + 1)
	}
}

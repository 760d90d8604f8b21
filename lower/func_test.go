package lower_test

import (
	"math"
	"slices"
	"strings"
	"testing"

	"mandrel/api"
	"mandrel/lower"
	"mandrel/notation"
	"mandrel/ops"
	"mandrel/sample"
	"mandrel/vcode"
)

// LO1: Func.

func TestNoSuchFunction(t *testing.T) {
	m := bench(sample.TypeII, "local.get 0")
	for _, f := range []int{-1, len(m.Funcs), len(m.Funcs) + 1, math.MaxInt, math.MinInt, 1 << 32} {
		wantNone(t, "a function that is not there", m, f, api.ErrArg)
	}
	wantNone(t, "no function at all", api.Module{}, 0, api.ErrArg)
}

func TestNoSuchType(t *testing.T) {
	for _, typ := range []uint32{sample.TypeNoneAgain + 1, 1 << 31, math.MaxUint32} {
		m := bench(sample.TypeNone, "unreachable")
		m.Funcs[0].Type = typ
		wantNone(t, "a type that is not there", m, 0, api.ErrArg)
		codeOf(t, "a function beside it", m, 1)
	}
}

func TestWrongKinds(t *testing.T) {
	for name, change := range map[string]func(m *api.Module){
		"of a parameter":        func(m *api.Module) { m.Types[sample.TypeTwo].Params[1] = api.None },
		"of a Result":           func(m *api.Module) { m.Types[sample.TypeTwo].Result = 0x7d },
		"of another's local":    func(m *api.Module) { m.Funcs[sample.FuncEmpty].Locals = []api.Kind{api.I32, 0x40} },
		"of a global":           func(m *api.Module) { m.Globals[3].Kind = api.None },
		"and a body that is so": func(m *api.Module) { m.Globals[3].Kind, m.Funcs[0].Body = 1, notation.Code("drop") },
	} {
		m := bench(sample.TypeNone, "nop")
		change(&m)
		wantNone(t, "a kind "+name, m, 0, api.ErrArg)
	}
}

func TestMayNotRun(t *testing.T) {
	for _, c := range []noted{
		{"nothing to drop", sample.TypeNone, "drop"},
		{"nothing to give", sample.TypeI, ""},
		{"too much to give", sample.TypeI, "i32.const 1 i32.const 2"},
		{"another kind", sample.TypeI, "i64.const 1"},
		{"no such local", sample.TypeNone, "local.get 2 drop"},
		{"no such global", sample.TypeNone, "global.get 4 drop"},
		{"a global that stays", sample.TypeNone, "i64.const 1 global.set 1"},
		{"no such label", sample.TypeNone, "br 1"},
		{"no such function", sample.TypeNone, "call 8"},
		{"no such type", sample.TypeNone, "i32.const 0 call_indirect 9"},
		{"a br_table without labels", sample.TypeNone, "i32.const 0 br_table ;"},
		{"a wrong instruction behind unreachable", sample.TypeNone, "unreachable i32.const 1 i64.eqz drop"},
		{"an if of a value without an else", sample.TypeI, "i32.const 1 if i32 ( i32.const 1 )"},
		{"too great an Align", sample.TypeNone, "i32.const 1 i32.load 3 drop"},
	} {
		wantNone(t, c.name, bench(c.typ, c.text), 0, api.ErrInvalid)
	}
	m := bench(sample.TypeNone, "")
	m.Funcs[0].Body = []api.Instr{{Op: 0x41, N: 1 << 31}, {Op: 0x1a}}
	wantNone(t, "a const that is no I32", m, 0, api.ErrInvalid)
	m.Funcs[0].Body = []api.Instr{{Op: 0x05}}
	wantNone(t, "no instruction", m, 0, api.ErrInvalid)
	m.Funcs[0].Body = []api.Instr{{Op: vcode.Jump}}
	wantNone(t, "an instruction of such code alone", m, 0, api.ErrInvalid)
}

// TestBodyAlone: only the function's own body is asked.
func TestBodyAlone(t *testing.T) {
	m := bench(sample.TypeI, "i32.const 1")
	m.Funcs[sample.FuncEmpty].Body = notation.Code("drop")
	m.Exports = append(m.Exports, m.Exports[0])
	codeOf(t, "a module that may not run", m, 0)
	wantNone(t, "the body that may not", m, sample.FuncEmpty, api.ErrInvalid)
}

// TestNoted: each of the noted bodies has code, and the other functions of bench.
func TestNoted(t *testing.T) {
	for _, c := range allNoted() {
		codeOf(t, c.name+" ("+c.text+")", bench(c.typ, c.text), 0)
	}
	m := bench(sample.TypeNone, "")
	for f := range m.Funcs {
		codeOf(t, "bench", m, f)
	}
}

// TestCode: which registers stand where; the locals of these are 0 and 1, the stack's places those from 2 on.
func TestCode(t *testing.T) {
	for _, c := range []struct{ name, text, want string }{
		{"nothing", "i32.const 5", "regs 3 params 1 result; block 0 depth 0; r2 = const 5; return r2"},
		{"places", "local.get 0 local.get 1 i32.wrap_i64 i32.sub", "regs 4 params 1 result; block 0 depth 0; r2 = move r0; r3 = move r1; r3 = i32.wrap_i64 r3; r2 = i32.sub r2 r3; return r2"},
		{"locals", "i64.const -1 local.set 1 i32.const -1 local.tee 0", "regs 3 params 1 result; block 0 depth 0; r2 = const -1; r1 = move r2; r2 = const 4294967295; r0 = move r2; return r2"},
		{"an order", "i32.const 9 i64.const 8 i32.const 7 i32.const 2 call_indirect 5 i32.wrap_i64", "regs 6 params 1 result; block 0 depth 0; r2 = const 9; r3 = const 8; r4 = const 7; r5 = const 2; r2 = call_indirect r5 r2 r3 r4 5; r2 = i32.wrap_i64 r2; return r2"},
		{"a store", "i32.const 9 local.get 0 i32.store16 1 +7 i32.const 3 call 4 local.get 0", "regs 4 params 1 result; block 0 depth 0; r2 = const 9; r3 = move r0; i32.store16 r2 r3 +7; r2 = const 3; call r2 4; r2 = move r0; return r2"},
		{"an if", "local.get 0 if i32 ( i32.const 1 ) else ( i32.const 2 )", "regs 3 params 1 result; block 0 depth 0; r2 = move r0; branch r2 -> 1 2; block 1 depth 0; r2 = const 1; jump -> 3; block 2 depth 0; r2 = const 2; jump -> 3; block 3 depth 0; return r2"},
		{"a value that stands higher", "i32.const 3 block i32 ( i32.const 4 i32.const 5 local.get 0 br_if 0 i32.add ) i32.add", "regs 6 params 1 result; block 0 depth 0; r2 = const 3; r3 = const 4; r4 = const 5; r5 = move r0; branch r5 -> 1 3; block 1 depth 0; r3 = move r4; jump -> 2; block 2 depth 0; r2 = i32.add r2 r3; return r2; block 3 depth 0; r3 = i32.add r3 r4; jump -> 2"},
		{"a table", "block ( block ( loop ( local.get 0 br_table 0 1 2 1 1 ; ) ) i32.const 3 return ) i32.const 4", "regs 3 params 1 result; block 0 depth 0; jump -> 1; block 1 depth 1; r2 = move r0; table r2 -> 1 2 3 2; block 2 depth 0; r2 = const 3; return r2; block 3 depth 0; r2 = const 4; return r2"},
		{"behind br", "block ( br 0 i64.const 1 i64.const 2 i64.const 3 drop drop drop loop ( ) ) i32.const 4 return unreachable", "regs 3 params 1 result; block 0 depth 0; jump -> 1; block 1 depth 0; r2 = const 4; return r2"},
	} {
		m := bench(sample.TypeII, c.text)
		m.Funcs[0].Locals = []api.Kind{api.I64}
		if got, want := codeOf(t, c.name, m, 0), notation.Virtual(c.want); !vcode.Same(got, want) {
			text, _ := vcode.Text(got)
			t.Errorf("%s: %s, want %s", c.name, strings.ReplaceAll(text, "\n", ";"), c.want)
		}
	}
}

// TestExample is chapter 12's, and the first one of the document.
func TestExample(t *testing.T) {
	m := bench(sample.TypeII, "local.get 0 local.get 0 i32.add")
	m.Funcs[0].Locals = nil
	if c := codeOf(t, "the example", m, 0); c.Regs != 3 || c.Params != 1 || !c.Result {
		t.Errorf("%v", c)
	}
}

// TestUnusedFields: what stands in the fields that an instruction has no use for is nothing to its code.
func TestUnusedFields(t *testing.T) {
	for _, c := range slices.Concat(withSign(), others, blocks, branches()) {
		m := bench(c.typ, c.text)
		want := codeOf(t, c.name, m, 0)
		fill(m.Funcs[0].Body)
		got, err := lower.Func(m, 0)
		if err != nil || !vcode.Same(got, want) {
			t.Errorf("%s (%s): %v, %v, want %v", c.name, c.text, got, err, want)
		}
	}
}

// fill fills all fields that instructions have no use for.
func fill(l []api.Instr) {
	for i := range l {
		in, has := &l[i], l[i]
		fill(has.Body)
		fill(has.Else)
		none := []api.Instr{{Op: 0xff}}
		*in = api.Instr{Op: has.Op, N: 77, Align: 88, Offset: 99, Result: 0x33, Body: none, Else: none, Labels: []uint32{1 << 30}}
		form, _ := ops.Form(has.Op)
		switch form {
		case ops.Const32, ops.Const64, ops.Index, ops.Call:
			in.N = has.N
		case ops.Address:
			in.Align, in.Offset = has.Align, has.Offset
		case ops.Table:
			in.Labels = has.Labels
		case ops.If:
			in.Else = has.Else
			fallthrough
		case ops.Block:
			in.Result, in.Body = has.Result, has.Body
		}
	}
}

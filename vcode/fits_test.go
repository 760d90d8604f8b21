package vcode_test

import (
	"math"
	"testing"

	"mandrel/api"
	"mandrel/notation"
	"mandrel/vcode"
)

// VC1: Fits.

// wantFits holds Fits against what is wanted, and looks whether anything was changed.
func wantFits(t *testing.T, what string, m api.Module, f int, c vcode.Code, want api.Errno) {
	t.Helper()
	moduleBefore, codeBefore := told(m), told(c)
	if err := vcode.Fits(m, f, c); number(err) != want {
		t.Errorf("%s: %v, want the error %d", what, err, want)
	}
	if told(m) != moduleBefore || told(c) != codeBefore {
		t.Errorf("%s: something was changed", what)
	}
}

func TestFitsOfFunctions(t *testing.T) {
	m := benchModule()
	returns := notation.Virtual("regs 0 params 0; block 0 depth 0; return")
	wantFits(t, "bench", m, 0, benchCode(), 0)
	wantFits(t, "a type of nothing", m, 1, returns, 0)
	wantFits(t, "a function that is not there", m, 5, returns, api.ErrArg)
	wantFits(t, "the greatest one", m, math.MaxInt, returns, api.ErrArg)
	wantFits(t, "one below 0", m, -1, returns, api.ErrArg)
	wantFits(t, "the least one", m, math.MinInt, returns, api.ErrArg)
	wantFits(t, "no functions", api.Module{}, 0, returns, api.ErrArg)
	wantFits(t, "a type that is not there", m, 4, returns, api.ErrArg)
	wantFits(t, "no types", api.Module{Funcs: []api.Func{{}}}, 0, returns, api.ErrArg)
	wantFits(t, "the greatest type", api.Module{Types: []api.Type{{}}, Funcs: []api.Func{{Type: math.MaxUint32}}}, 0, returns, api.ErrArg)
	wantFits(t, "no parameter where there is one", m, 2, returns, api.ErrInvalid)
	wantFits(t, "no result where there is one", m, 3, returns, api.ErrInvalid)
	gives := notation.Virtual("regs 1 params 0 result; block 0 depth 0; return r0")
	wantFits(t, "a result", m, 3, gives, 0)
	wantFits(t, "a result where there is none", m, 1, gives, api.ErrInvalid)
	takes := notation.Virtual("regs 2 params 1; block 0 depth 0; return")
	wantFits(t, "a parameter", m, 2, takes, 0)
	wantFits(t, "a parameter where there is none", m, 1, takes, api.ErrInvalid)
	two := notation.Virtual("regs 2 params 2; block 0 depth 0; return")
	wantFits(t, "two parameters where there is one", m, 2, two, api.ErrInvalid)
}

// TestFitsOrder: what may not be is told ahead of what does not fit.
func TestFitsOrder(t *testing.T) {
	m := benchModule()
	wrong := notation.Virtual("regs 1 params 1; block 0 depth 0; call 9")
	wantFits(t, "no end, and not fit", m, 1, wrong, api.ErrArg)
	wantFits(t, "no code, and no function", m, 9, vcode.Code{}, api.ErrArg)
	wantFits(t, "no function, and not fit", m, 9, notation.Virtual("regs 1 params 1; block 0 depth 0; call 9; return"), api.ErrArg)
	late := notation.Virtual("regs 1 params 1; block 0 depth 0; call 9; return; block 1 depth 65; return")
	wantFits(t, "a wrong block behind one that does not fit", m, 1, late, api.ErrArg)
}

// one is code of type 1 (nothing taken and given) with one instruction, and three registers, in its last block.
func one(line string) vcode.Code {
	return notation.Virtual("regs 3 params 0; block 0 depth 0; return; block 1 depth 0; " + line + "; return")
}

func TestFitsOfInstructions(t *testing.T) {
	for _, c := range []struct {
		line   string
		change func(m *api.Module)
		want   api.Errno
	}{
		{"r0 = global.get 0", nil, 0},
		{"r0 = global.get 1", nil, 0},
		{"r0 = global.get 2", nil, api.ErrInvalid},
		{"r0 = global.get 9223372036854775807", nil, api.ErrInvalid},
		{"r0 = global.get 0", func(m *api.Module) { m.Globals = nil }, api.ErrInvalid},
		{"global.set r0 0", nil, 0},
		{"global.set r0 1", nil, api.ErrInvalid},
		{"global.set r0 1", func(m *api.Module) { m.Globals[1].Mut = true }, 0},
		{"global.set r0 2", nil, api.ErrInvalid},
		{"global.set r0 4294967296", nil, api.ErrInvalid},
		{"r0 = call r1 r2 0", nil, 0},
		{"r0 = call r1 0", nil, api.ErrInvalid},
		{"r0 = call 0", nil, api.ErrInvalid},
		{"r0 = call r1 r2 r2 0", nil, api.ErrInvalid},
		{"call r1 r2 0", nil, api.ErrInvalid},
		{"call 1", nil, 0},
		{"call r0 1", nil, api.ErrInvalid},
		{"r0 = call 1", nil, api.ErrInvalid},
		{"call r0 2", nil, 0},
		{"call 2", nil, api.ErrInvalid},
		{"r2 = call 3", nil, 0},
		{"call 3", nil, api.ErrInvalid},
		{"call 4", nil, api.ErrInvalid}, // there, but without a type
		{"call 4", func(m *api.Module) { m.Funcs[4].Type = 1 }, 0},
		{"call 5", nil, api.ErrInvalid},
		{"call 9223372036854775807", nil, api.ErrInvalid},
		{"call 1", func(m *api.Module) { m.Tables, m.Memories, m.Globals = nil, nil, nil }, 0},
		{"r0 = call_indirect r0 r1 r2 0", nil, 0},
		{"r0 = call_indirect r0 r1 0", nil, api.ErrInvalid},
		{"r0 = call_indirect r0 r1 r2 r2 0", nil, api.ErrInvalid},
		{"call_indirect r0 r1 r2 0", nil, api.ErrInvalid},
		{"call_indirect r0 1", nil, 0},
		{"r1 = call_indirect r0 1", nil, api.ErrInvalid},
		{"call_indirect r0 r1 1", nil, api.ErrInvalid},
		{"r1 = call_indirect r0 3", nil, 0},
		{"call_indirect r0 1", func(m *api.Module) { m.Tables = nil }, api.ErrInvalid},
		{"call_indirect r0 4", nil, api.ErrInvalid},
		{"call_indirect r0 9223372036854775807", nil, api.ErrInvalid},
		{"call_indirect r0 1", func(m *api.Module) { m.Memories, m.Globals = nil, nil }, 0},
		{"r0 = memory.size", nil, 0},
		{"r0 = memory.size", func(m *api.Module) { m.Memories = nil }, api.ErrInvalid},
		{"r0 = memory.grow r1", nil, 0},
		{"r0 = memory.grow r1", func(m *api.Module) { m.Memories = nil }, api.ErrInvalid},
		{"r0 = select r0 r1 r2", func(m *api.Module) { m.Memories = nil }, 0},
		{"r0 = move r2", func(m *api.Module) { m.Memories = nil }, 0},
		{"r0 = const -1", func(m *api.Module) { m.Memories = nil }, 0},
		{"r0 = i32.div_s r1 r2", func(m *api.Module) { m.Memories = nil }, 0},
	} {
		m := benchModule()
		if c.change != nil {
			c.change(&m)
		}
		wantFits(t, c.line, m, 1, one(c.line), c.want)
	}
}

// TestFitsOfAllWithoutAnything: in a module with one function of one type alone just what needs nothing more is one.
func TestFitsOfAllWithoutAnything(t *testing.T) {
	bare := api.Module{Types: []api.Type{{}}, Funcs: []api.Func{{}}}
	withMemory := api.Module{Types: bare.Types, Funcs: bare.Funcs, Memories: []api.Limits{{}}}
	for op := range 256 {
		f, ok := familyOf(byte(op))
		if !ok {
			continue
		}
		in := vcode.Ins{Op: byte(op), Dst: -1, Src: make([]int, f.takes)}
		if f.gives == "yes" {
			in.Dst = 0
		}
		c := around(in, leadsOn(in.Op), false)
		c.Params = 0
		ofMemory := isAccess(in.Op) || in.Op == opSize || in.Op == opGrow
		never := in.Op == opGet || in.Op == opSet || in.Op == opPick
		wantFits(t, vcodeLine(in), bare, 0, c, wrongIf(never || ofMemory))
		wantFits(t, vcodeLine(in), withMemory, 0, c, wrongIf(never))
	}
}

func wrongIf(wrong bool) api.Errno {
	if wrong {
		return api.ErrInvalid
	}
	return 0
}

func vcodeLine(in vcode.Ins) string { return told(in) }

package lower_test

import (
	"strings"
	"testing"

	"mandrel/api"
	"mandrel/notation"
	"mandrel/opcode"
	"mandrel/sample"
	"mandrel/vcode"
)

// LO1: how much there may be.

// tall is a body that has so many values on its stack at most.
func tall(height int) []api.Instr {
	var out []api.Instr
	for range height {
		out = append(out, api.Instr{Op: opcode.Const64})
	}
	for range height {
		out = append(out, api.Instr{Op: opcode.Drop})
	}
	return out
}

// sized is a module whose function 0 has so many parameters, locals beside them, and values on its stack.
func sized(params, locals, height int) api.Module {
	m := api.Module{Types: []api.Type{{}}, Funcs: []api.Func{{Body: tall(height)}}}
	for range params {
		m.Types[0].Params = append(m.Types[0].Params, api.I64)
	}
	for range locals {
		m.Funcs[0].Locals = append(m.Funcs[0].Locals, api.I32)
	}
	return m
}

func TestMostRegisters(t *testing.T) {
	for _, n := range [][3]int{{0, 0, vcode.MaxRegs}, {0, vcode.MaxRegs, 0}, {vcode.MaxRegs, 0, 0}, {100, 200, vcode.MaxRegs - 300}, {1, vcode.MaxRegs - 2, 1}} {
		if c := codeOf(t, "as many as there may be", sized(n[0], n[1], n[2]), 0); c.Regs != vcode.MaxRegs || c.Params != n[0] {
			t.Errorf("%v: %d registers, %d params", n, c.Regs, c.Params)
		}
		wantNone(t, "a parameter more", sized(n[0]+1, n[1], n[2]), 0, api.ErrLimit)
		wantNone(t, "a local more", sized(n[0], n[1]+1, n[2]), 0, api.ErrLimit)
		wantNone(t, "a value more", sized(n[0], n[1], n[2]+1), 0, api.ErrLimit)
	}
	wantNone(t, "far more", sized(5000, 5000, 5000), 0, api.ErrLimit)
	m := sized(0, 2000, 0)
	m.Funcs[0].Body = notation.Code("drop")
	wantNone(t, "a body that may not run, of too many", m, 0, api.ErrInvalid)
}

// TestRegistersBehind: what is behind br and such has no registers.
func TestRegistersBehind(t *testing.T) {
	m := sized(0, 5, 0)
	for _, off := range []string{"unreachable", "br 0", "return", "i32.const 0 br_table 0 ;"} {
		m.Funcs[0].Body = append(notation.Code(off), append(tall(2000), api.Instr{Op: opcode.Loop, Body: tall(3000)})...)
		if c := codeOf(t, off, m, 0); c.Regs > 6 || vcode.Size(c) > 3 {
			t.Errorf("%s: %d registers, %d instructions", off, c.Regs, vcode.Size(c))
		}
	}
}

// TestMostBlocks: each part of a body makes so many blocks more.
func TestMostBlocks(t *testing.T) {
	for _, c := range []struct {
		part  string
		makes int
	}{
		{"loop ( ) ", 1},
		{"block ( br 0 ) ", 1},
		{"i32.const 1 if ( ) else ( call 6 ) ", 3},
		{"block ( i32.const 1 br_if 0 ) ", 2},
		{"block i32 ( i64.const 1 i32.const 2 i32.const 3 br_if 0 br 0 ) drop ", 3},
	} {
		many := (vcode.MaxBlocks - 1) / c.makes
		rest := (vcode.MaxBlocks - 1) % c.makes
		most := strings.Repeat(c.part, many) + strings.Repeat("loop ( ) ", rest)
		if got := codeOf(t, c.part, bench(sample.TypeNone, most), 0); len(got.Blocks) != vcode.MaxBlocks {
			t.Errorf("%s: %d blocks", c.part, len(got.Blocks))
		}
		wantNone(t, c.part+"and a loop more", bench(sample.TypeNone, most+"loop ( ) "), 0, api.ErrLimit)
		wantNone(t, c.part+"far more often", bench(sample.TypeNone, strings.Repeat(c.part, 9000)), 0, api.ErrLimit)
	}
}

func TestMostInstructions(t *testing.T) {
	const most = api.MaxBody
	calls := func(n int) string { return strings.Repeat("call 6 ", n) }
	for _, c := range []struct {
		name, text string
	}{
		{"calls", calls(most - 1)},
		{"calls, and nops", calls(most-1) + strings.Repeat("nop ", 20000)},
		{"calls, and others behind return", calls(most-1) + "return " + calls(20000)},
		{"calls in a loop", "loop ( " + calls(most-2) + ")"},
	} {
		if got := codeOf(t, c.name, bench(sample.TypeNone, c.text), 0); vcode.Size(got) != most {
			t.Errorf("%s: %d instructions", c.name, vcode.Size(got))
		}
		wantNone(t, c.name+", and one ahead", bench(sample.TypeNone, "call 6 "+c.text), 0, api.ErrLimit)
	}
	wantNone(t, "far more", bench(sample.TypeNone, calls(5*most)), 0, api.ErrLimit)
}

// TestDepths: a block tells as many loops as stand about it, where these are as many as code may tell of.
func TestDepths(t *testing.T) {
	for _, n := range []int{0, 1, 2, 5, 63, 64, 65, 300} {
		text := "call 1 " + strings.Repeat("loop ( call 1 i32.const 0 br_if 0 ", n) + "call 1 " + strings.Repeat("i32.const 0 br_if 0 call 1 ) call 6 ", n)
		c := codeOf(t, "loops", bench(sample.TypeNone, text), 0)
		most := 0
		for _, b := range c.Blocks {
			most = max(most, b.Depth)
		}
		if most != min(n, api.MaxNest) {
			t.Errorf("%d loops: the depth %d", n, most)
		}
		if first, last := c.Blocks[0], c.Blocks[len(c.Blocks)-1]; first.Depth != 0 || last.Depth != 0 {
			t.Errorf("%d loops: the depth %d at the begin, %d at the end", n, first.Depth, last.Depth)
		}
	}
	// Loops beside one another are not in one another.
	codeOf(t, "loops", bench(sample.TypeNone, strings.Repeat("loop ( i32.const 0 br_if 0 ) ", 100)), 0)
	codeOf(t, "loops behind br", bench(sample.TypeNone, "loop ( br 0 loop ( loop ( ) ) )"), 0)
}

// TestDeepBlocks: blocks that stand in one another as deep as may be.
func TestDeepBlocks(t *testing.T) {
	const deep = 1<<16 - 8
	within := func(op byte) []api.Instr {
		body := []api.Instr{{Op: opcode.Const32, N: 7}, {Op: opcode.Const32, N: 8}, {Op: opcode.Br, N: deep}}
		for range deep {
			body = []api.Instr{{Op: op, Result: api.I32, Body: body}}
		}
		return body
	}
	if c := codeOf(t, "blocks", sample.Bench(sample.TypeI, within(opcode.Block)), 0); len(c.Blocks) != 1 || c.Regs != 4 {
		t.Errorf("%v", c)
	}
	wantNone(t, "loops", sample.Bench(sample.TypeI, within(opcode.Loop)), 0, api.ErrLimit)
}

// tableOf is a body that goes, by its argument, to one of two labels, by their numbers.
func tableOf(labels []uint32) api.Module {
	m := bench(sample.TypeII, "block ( block ( local.get 0 br_table 0 ; ) i32.const 3 return ) i32.const 4")
	m.Funcs[0].Body[0].Body[0].Body[1].Labels = labels
	return m
}

// TestManyLabels: a table has 257 ways at most; labels that say nothing more don't count.
func TestManyLabels(t *testing.T) {
	mixed := make([]uint32, 257)
	for i := range mixed {
		mixed[i] = uint32(i % 2)
	}
	for _, c := range []struct {
		name   string
		labels []uint32
		args   []uint64
	}{
		{"257", mixed, []uint64{0, 1, 254, 255, 256, 257, 1 << 31, 1<<32 - 1}},
		{"1,000 of one", make([]uint32, 1000), []uint64{0, 1, 999, 1000}},
		{"257, and 1,000 of the last one", append(mixed[:257:257], make([]uint32, 1000)...), []uint64{0, 254, 255, 256, 257, 1256, 1257}},
	} {
		p := pairOf(t, c.name, tableOf(c.labels))
		codeOf(t, c.name, tableOf(c.labels), 0)
		for _, v := range c.args {
			p.hold(t, 0, []uint64{v}, plenty)
		}
	}
	wantNone(t, "258", tableOf(append(mixed[:257:257], 1)), 0, api.ErrLimit)
}

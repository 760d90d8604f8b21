package lower_test

import (
	"errors"
	"testing"

	"mandrel/api"
	"mandrel/lower"
	"mandrel/notation"
	"mandrel/opcode"
	"mandrel/sample"
	"mandrel/valid"
	"mandrel/vcode"
)

// bench is package sample's, with a body that is noted.
func bench(typ uint32, text string) api.Module { return sample.Bench(typ, notation.Code(text)) }

// number is that of an error; 0 of none, -1 of one that has no number.
func number(err error) api.Errno {
	if err == nil {
		return 0
	}
	var n api.Errno
	if !errors.As(err, &n) {
		return -1
	}
	return n
}

// loops is how many loops instructions have in one another.
func loops(l []api.Instr) int {
	most := 0
	for _, in := range l {
		n := max(loops(in.Body), loops(in.Else))
		if in.Op == opcode.Loop {
			n++
		}
		most = max(most, n)
	}
	return most
}

// holdCode is LO1 of code of a function that has some.
func holdCode(t *testing.T, what string, m api.Module, f int, c vcode.Code) {
	t.Helper()
	if err := vcode.Fits(m, f, c); err != nil {
		t.Errorf("%s: Fits: %v: %v", what, err, c)
	}
	height, err := valid.Height(m, f)
	if err != nil {
		t.Errorf("%s: Height: %v", what, err)
	}
	fn := m.Funcs[f]
	if want := len(m.Types[fn.Type].Params) + len(fn.Locals) + height; c.Regs != want {
		t.Errorf("%s: %d registers, want %d", what, c.Regs, want)
	}
	most := loops(fn.Body)
	for i, b := range c.Blocks {
		if b.Depth > most {
			t.Errorf("%s: block %d has the depth %d, of %d loops", what, i, b.Depth, most)
		}
	}
}

// codeOf is a function's code, which there must be.
func codeOf(t *testing.T, what string, m api.Module, f int) vcode.Code {
	t.Helper()
	c, err := lower.Func(m, f)
	if err != nil {
		t.Fatalf("%s: %v", what, err)
	}
	holdCode(t, what, m, f, c)
	return c
}

// wantNone wants an error of Func, and no code beside it.
func wantNone(t *testing.T, what string, m api.Module, f int, want api.Errno) {
	t.Helper()
	c, err := lower.Func(m, f)
	if number(err) != want || !vcode.Same(c, vcode.Code{}) {
		t.Errorf("%s: %v blocks, %v, want the error %d alone", what, len(c.Blocks), err, want)
	}
}

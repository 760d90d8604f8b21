package valid_test

import (
	"errors"
	"slices"
	"testing"

	"mandrel/api"
	"mandrel/notation"
)

// code is the instructions of a note.
func code(text string) []api.Instr { return notation.Code(text) }

// The types of bench, by what they take and give: i of I32, I of I64.
const (
	typeNone   = iota // nothing
	typeI             // gives i
	typeBigI          // gives I
	typeMixed         // takes i and I, gives I
	typeTakesI        // takes I
)

// bench is a module that has some of all; its function 0 is that of a type, and a body. Beside its Params it has the Locals i and I. The others, from 1 on, have the types in their order.
func bench(typ uint32, body []api.Instr) api.Module {
	return api.Module{
		Types: []api.Type{
			{},
			{Result: api.I32},
			{Result: api.I64},
			{Params: []api.Kind{api.I32, api.I64}, Result: api.I64},
			{Params: []api.Kind{api.I64}},
		},
		Funcs: []api.Func{
			{Type: typ, Locals: []api.Kind{api.I32, api.I64}, Body: body},
			{Type: 0},
			{Type: 1, Body: code("i32.const 1")},
			{Type: 2, Body: code("i64.const 1")},
			{Type: 3, Body: code("local.get 1")},
			{Type: 4},
		},
		Tables:   []api.Limits{{Min: 3}},
		Memories: []api.Limits{{Min: 1, Has: true, Max: 2}},
		Globals: []api.Global{
			{Kind: api.I32, Mut: true, Init: api.Instr{Op: 0x41, N: 7}},
			{Kind: api.I64, Init: api.Instr{Op: 0x42, N: -7}},
			{Kind: api.I64, Mut: true, Init: api.Instr{Op: 0x42}},
		},
		Exports: []api.Export{{Name: "run"}, {Name: "table", What: 1}, {Name: "memory", What: 2}, {Name: "", What: 3, Index: 2}, {Name: "again", Index: 5}},
		Elems:   []api.Elem{{Offset: api.Instr{Op: 0x41}, Funcs: []uint32{5, 0, 5}}},
		Datas:   []api.Data{{Offset: api.Instr{Op: 0x41, N: 8}, Bytes: []byte{1, 2}}},
	}
}

// copyOf shares nothing with a module.
func copyOf(m api.Module) api.Module {
	out := api.Module{
		Types:    slices.Clone(m.Types),
		Funcs:    slices.Clone(m.Funcs),
		Tables:   slices.Clone(m.Tables),
		Memories: slices.Clone(m.Memories),
		Globals:  slices.Clone(m.Globals),
		Exports:  slices.Clone(m.Exports),
		Elems:    slices.Clone(m.Elems),
		Datas:    slices.Clone(m.Datas),
	}
	for i := range out.Types {
		out.Types[i].Params = slices.Clone(out.Types[i].Params)
	}
	for i := range out.Funcs {
		out.Funcs[i].Locals = slices.Clone(out.Funcs[i].Locals)
		out.Funcs[i].Body = copyOfCode(out.Funcs[i].Body)
	}
	for i := range out.Elems {
		out.Elems[i].Funcs = slices.Clone(out.Elems[i].Funcs)
	}
	for i := range out.Datas {
		out.Datas[i].Bytes = slices.Clone(out.Datas[i].Bytes)
	}
	return out
}

func copyOfCode(l []api.Instr) []api.Instr {
	out := slices.Clone(l)
	for i := range out {
		out[i].Body = copyOfCode(out[i].Body)
		out[i].Else = copyOfCode(out[i].Else)
		out[i].Labels = slices.Clone(out[i].Labels)
	}
	return out
}

// number is that of an error; 0 of none, -1 of one that has no number.
func number(err error) api.Errno {
	if err == nil {
		return 0
	}
	var n api.Errno
	if !errors.As(err, &n) {
		return -1
	}
	return n
}

func wantNumber(t *testing.T, what string, err error, want api.Errno) {
	t.Helper()
	if got := number(err); got != want {
		t.Errorf("%s: %v, want the error %d", what, err, want)
	}
}

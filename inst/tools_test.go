package inst_test

import (
	"errors"
	"reflect"
	"slices"
	"testing"

	"mandrel/api"
	"mandrel/inst"
	"mandrel/mem"
)

func i32(n int64) api.Instr { return api.Instr{Op: 0x41, N: n} }
func i64(n int64) api.Instr { return api.Instr{Op: 0x42, N: n} }

// number is that of an error; 0 of none, -1 of one that has no number.
func number(err error) api.Errno {
	if err == nil {
		return 0
	}
	var n api.Errno
	if !errors.As(err, &n) {
		return -1
	}
	return n
}

// copyOf is a module that shares nothing with another one; bodies here have no instructions within others.
func copyOf(m api.Module) api.Module {
	out := api.Module{
		Types:    slices.Clone(m.Types),
		Funcs:    slices.Clone(m.Funcs),
		Tables:   slices.Clone(m.Tables),
		Memories: slices.Clone(m.Memories),
		Globals:  slices.Clone(m.Globals),
		Exports:  slices.Clone(m.Exports),
		Elems:    slices.Clone(m.Elems),
		Datas:    slices.Clone(m.Datas),
	}
	for i := range out.Types {
		out.Types[i].Params = slices.Clone(out.Types[i].Params)
	}
	for i := range out.Funcs {
		out.Funcs[i].Locals = slices.Clone(out.Funcs[i].Locals)
		out.Funcs[i].Body = slices.Clone(out.Funcs[i].Body)
	}
	for i := range out.Elems {
		out.Elems[i].Funcs = slices.Clone(out.Elems[i].Funcs)
	}
	for i := range out.Datas {
		out.Datas[i].Bytes = slices.Clone(out.Datas[i].Bytes)
	}
	return out
}

// unchanged fails, if a module is no longer what it was.
func unchanged(t *testing.T, what string, m, before api.Module) {
	t.Helper()
	if !reflect.DeepEqual(m, before) {
		t.Errorf("%s: the module that was handed in was changed", what)
	}
}

// memory is one of so many pages; nil of -1.
func memory(t *testing.T, pages int) *mem.Memory {
	t.Helper()
	if pages < 0 {
		return nil
	}
	m, err := mem.New(pages, api.MaxPages)
	if err != nil {
		t.Fatalf("a memory of %d pages: %v", pages, err)
	}
	return m
}

// all is every byte of a memory.
func all(t *testing.T, m *mem.Memory) []byte {
	t.Helper()
	if m == nil {
		return nil
	}
	b, err := m.Bytes(0, m.Pages()*api.PageSize)
	if err != nil {
		t.Fatalf("Bytes: %v", err)
	}
	return b
}

// begun is a module's state, which it must have.
func begun(t *testing.T, m api.Module) *inst.State {
	t.Helper()
	s, trap, err := inst.New(m)
	if s == nil || trap != api.Well || err != nil {
		t.Fatalf("New: %v, %d, %v, want a state", s, trap, err)
	}
	return s
}

// The numbers of bench's types.
const (
	typeNone = iota
	typeI32
	typeI64
	typeBoth
	typeTurned
	typeGives
	typeOfMany
	typeNoneAgain
	typeGivesAgain
)

// bench has some of everything, and may run: a function of each type, by the type's number.
func bench() api.Module {
	types := []api.Type{
		typeNone:       {},
		typeI32:        {Params: []api.Kind{api.I32}},
		typeI64:        {Params: []api.Kind{api.I64}},
		typeBoth:       {Params: []api.Kind{api.I32, api.I64}},
		typeTurned:     {Params: []api.Kind{api.I64, api.I32}},
		typeGives:      {Params: []api.Kind{api.I32}, Result: api.I32},
		typeOfMany:     {Params: []api.Kind{api.I32, api.I32, api.I64, api.I32}, Result: api.I64},
		typeNoneAgain:  {},
		typeGivesAgain: {Params: []api.Kind{api.I32}, Result: api.I32},
	}
	m := api.Module{
		Types:    types,
		Tables:   []api.Limits{{Min: 12, Has: true, Max: 12}},
		Memories: []api.Limits{{Min: 1, Has: true, Max: 2}},
		Globals:  []api.Global{{Kind: api.I32, Mut: true, Init: i32(5)}, {Kind: api.I64, Init: i64(6)}},
		Exports:  []api.Export{{Name: "f", Index: 3}, {Name: "t", What: 1}, {Name: "m", What: 2}, {Name: "g", What: 3, Index: 1}, {Name: "", Index: 8}},
		Elems:    []api.Elem{{Offset: i32(0), Funcs: []uint32{0, 1, 2, 3, 4, 5, 6, 7, 8}}},
		Datas:    []api.Data{{Offset: i32(10), Bytes: []byte("abc")}},
	}
	for i, typ := range types {
		f := api.Func{Type: uint32(i)}
		switch typ.Result {
		case api.I32:
			f.Body = []api.Instr{i32(1)}
		case api.I64:
			f.Body = []api.Instr{i64(1)}
		}
		m.Funcs = append(m.Funcs, f)
	}
	return m
}

// Package sample has modules for the tests of several layers: one that has some of all, and made ones.
package sample

import (
	"math"

	"mandrel/api"
	"mandrel/notation"
)

// The numbers of Bench's types: i is I32, I is I64.
const (
	TypeNone   = iota // nothing
	TypeI             // gives i
	TypeBigI          // gives I
	TypeII            // takes i, gives i
	TypeTwo           // takes i and i, gives i
	TypeMixed         // takes i, I and i, gives I
	TypeTakesI        // takes i
	TypeBigII         // takes I, gives I
	TypeNoneAgain
)

// The numbers of Bench's functions. Function 0 is the one that is tested.
const (
	FuncTold   = iota + 1 // of TypeNone: one more in global 0
	FuncLess              // of TypeTwo: the first less the second
	FuncDigits            // of TypeMixed: the first times 10,000, the second times 100, and the third
	FuncPuts              // of TypeTakesI: stored at 100
	FuncBad               // of TypeNone: unreachable
	FuncEmpty             // of TypeNone: nothing
	FuncBack              // of TypeI: 21, out of blocks
)

// The entries of Bench's table, which has EntryMany of them, and where there is none.
const (
	EntryTold = iota
	EntryLess
	EntryDigits
	EntryPuts
	EntryTested
	EntryBad
	EntryNone
	EntryMany
)

// Bench is a module that has some of all; its function 0 is that of a type, and has a body, and beside its Params the Locals i and I.
func Bench(typ uint32, body []api.Instr) api.Module {
	return api.Module{
		Types:    benchTypes(),
		Funcs:    benchFuncs(api.Func{Type: typ, Locals: []api.Kind{api.I32, api.I64}, Body: body}),
		Tables:   []api.Limits{{Min: EntryMany}},
		Memories: []api.Limits{{Min: 1, Has: true, Max: 3}},
		Globals: []api.Global{
			{Kind: api.I32, Mut: true, Init: api.Instr{Op: 0x41, N: 5}},
			{Kind: api.I64, Init: api.Instr{Op: 0x42, N: -7}},
			{Kind: api.I64, Mut: true, Init: api.Instr{Op: 0x42, N: math.MaxInt64}},
			{Kind: api.I32, Init: api.Instr{Op: 0x41, N: -2}},
		},
		Exports: []api.Export{{Name: "run"}, {Name: "memory", What: 2}},
		Elems:   []api.Elem{{Offset: api.Instr{Op: 0x41}, Funcs: []uint32{FuncTold, FuncLess, FuncDigits, FuncPuts, 0, FuncBad}}},
		Datas:   []api.Data{{Offset: api.Instr{Op: 0x41, N: 8}, Bytes: []byte{0x81, 0x92, 0xa3, 0xb4, 0xc5, 0xd6, 0xe7, 0xf8}}},
	}
}

func benchTypes() []api.Type {
	i, big := api.I32, api.I64
	return []api.Type{
		TypeNone:      {},
		TypeI:         {Result: i},
		TypeBigI:      {Result: big},
		TypeII:        {Params: []api.Kind{i}, Result: i},
		TypeTwo:       {Params: []api.Kind{i, i}, Result: i},
		TypeMixed:     {Params: []api.Kind{i, big, i}, Result: big},
		TypeTakesI:    {Params: []api.Kind{i}},
		TypeBigII:     {Params: []api.Kind{big}, Result: big},
		TypeNoneAgain: {},
	}
}

func benchFuncs(tested api.Func) []api.Func {
	code := notation.Code
	return []api.Func{
		tested,
		FuncTold:   {Type: TypeNone, Body: code("global.get 0 i32.const 1 i32.add global.set 0")},
		FuncLess:   {Type: TypeTwo, Body: code("local.get 0 local.get 1 i32.sub")},
		FuncDigits: {Type: TypeMixed, Body: code("local.get 0 i64.extend_i32_u i64.const 10000 i64.mul local.get 1 i64.const 100 i64.mul i64.add local.get 2 i64.extend_i32_u i64.add")},
		FuncPuts:   {Type: TypeTakesI, Body: code("i32.const 100 local.get 0 i32.store 2")},
		FuncBad:    {Type: TypeNone, Body: code("unreachable")},
		FuncEmpty:  {Type: TypeNone},
		FuncBack:   {Type: TypeI, Body: code("i32.const 19 block ( i32.const 20 loop ( i32.const 21 return ) drop )")},
	}
}

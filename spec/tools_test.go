package spec_test

import (
	"errors"
	"math"
	"reflect"
	"slices"
	"testing"

	"mandrel/api"
	"mandrel/inst"
	"mandrel/notation"
	"mandrel/spec"
)

// plenty is more fuel than a test here uses up, unless it never ends.
const plenty = 1_000_000

// code is the instructions of a note.
func code(text string) []api.Instr { return notation.Code(text) }

// The numbers of bench's types: i is I32, I is I64.
const (
	typeNone   = iota // nothing
	typeI             // gives i
	typeBigI          // gives I
	typeII            // takes i, gives i
	typeTwo           // takes i and i, gives i
	typeMixed         // takes i, I and i, gives I
	typeTakesI        // takes i
	typeBigII         // takes I, gives I
	typeNoneAgain
)

// The numbers of bench's functions. Function 0 is the one that is tested.
const (
	funcTold   = iota + 1 // of typeNone: one more in global 0
	funcLess              // of typeTwo: the first less the second
	funcDigits            // of typeMixed: the first times 10,000, the second times 100, and the third
	funcPuts              // of typeTakesI: stored at 100
	funcBad               // of typeNone: unreachable
	funcEmpty             // of typeNone: nothing
	funcBack              // of typeI: 21, out of blocks
)

// The entries of bench's table, which has benchTable of them, and where there is none.
const (
	entryTold = iota
	entryLess
	entryDigits
	entryPuts
	entryTested
	entryBad
	entryNone
	benchTable
)

// bench is a module that has some of all; its function 0 is that of a type, and has a body, and beside its Params the Locals i and I.
func bench(typ uint32, body []api.Instr) api.Module {
	i, big := api.I32, api.I64
	return api.Module{
		Types: []api.Type{
			typeNone:      {},
			typeI:         {Result: i},
			typeBigI:      {Result: big},
			typeII:        {Params: []api.Kind{i}, Result: i},
			typeTwo:       {Params: []api.Kind{i, i}, Result: i},
			typeMixed:     {Params: []api.Kind{i, big, i}, Result: big},
			typeTakesI:    {Params: []api.Kind{i}},
			typeBigII:     {Params: []api.Kind{big}, Result: big},
			typeNoneAgain: {},
		},
		Funcs: []api.Func{
			{Type: typ, Locals: []api.Kind{i, big}, Body: body},
			funcTold:   {Type: typeNone, Body: code("global.get 0 i32.const 1 i32.add global.set 0")},
			funcLess:   {Type: typeTwo, Body: code("local.get 0 local.get 1 i32.sub")},
			funcDigits: {Type: typeMixed, Body: code("local.get 0 i64.extend_i32_u i64.const 10000 i64.mul local.get 1 i64.const 100 i64.mul i64.add local.get 2 i64.extend_i32_u i64.add")},
			funcPuts:   {Type: typeTakesI, Body: code("i32.const 100 local.get 0 i32.store 2")},
			funcBad:    {Type: typeNone, Body: code("unreachable")},
			funcEmpty:  {Type: typeNone},
			funcBack:   {Type: typeI, Body: code("i32.const 19 block ( i32.const 20 loop ( i32.const 21 return ) drop )")},
		},
		Tables:   []api.Limits{{Min: benchTable}},
		Memories: []api.Limits{{Min: 1, Has: true, Max: 3}},
		Globals: []api.Global{
			{Kind: i, Mut: true, Init: api.Instr{Op: 0x41, N: 5}},
			{Kind: big, Init: api.Instr{Op: 0x42, N: -7}},
			{Kind: big, Mut: true, Init: api.Instr{Op: 0x42, N: math.MaxInt64}},
			{Kind: i, Init: api.Instr{Op: 0x41, N: -2}},
		},
		Exports: []api.Export{{Name: "run"}, {Name: "memory", What: 2}},
		Elems:   []api.Elem{{Offset: api.Instr{Op: 0x41}, Funcs: []uint32{funcTold, funcLess, funcDigits, funcPuts, 0, funcBad}}},
		Datas:   []api.Data{{Offset: api.Instr{Op: 0x41, N: 8}, Bytes: []byte{0x81, 0x92, 0xa3, 0xb4, 0xc5, 0xd6, 0xe7, 0xf8}}},
	}
}

// trial is a body, what it is called with, and how it must end.
type trial struct {
	name   string
	typ    uint32
	text   string
	args   []uint64
	values []uint64
	trap   api.Trap
	used   int
}

func (c trial) module() api.Module { return bench(c.typ, code(c.text)) }

func (c trial) want() inst.Outcome {
	return inst.Outcome{Values: c.values, Trap: c.trap, Used: c.used}
}

// with is arguments; give is what comes of them.
func with(args ...uint64) []uint64   { return args }
func give(values ...uint64) []uint64 { return values }

// machine is one for a module, which must have one.
func machine(t *testing.T, m api.Module) *spec.Machine {
	t.Helper()
	x, trap, err := spec.New(m)
	if x == nil || trap != api.Well || err != nil {
		t.Fatalf("New: %v, %d, %v, want a machine", x, trap, err)
	}
	return x
}

// call is how a call ends, which is none that may not be.
func call(t *testing.T, x *spec.Machine, f int, args []uint64, fuel int) inst.Outcome {
	t.Helper()
	o, err := x.Call(f, args, fuel)
	if err != nil {
		t.Fatalf("Call of %d with %v and fuel %d: %v", f, args, fuel, err)
	}
	return o
}

// same says whether calls ended the same.
func same(a, b inst.Outcome) bool {
	return slices.Equal(a.Values, b.Values) && a.Trap == b.Trap && a.Used == b.Used
}

// hold plays a trial with plenty of fuel, and then with each lesser one, with just enough and with more.
func hold(t *testing.T, c trial) {
	t.Helper()
	m, args := c.module(), slices.Clone(c.args)
	x := machine(t, m)
	if got := call(t, x, 0, args, plenty); !same(got, c.want()) {
		t.Errorf("%s (%s): %v, want %v", c.name, c.text, got, c.want())
		return
	}
	holdFuel(t, c, x.State())
	if !reflect.DeepEqual(m, c.module()) {
		t.Errorf("%s: the module that was handed in was changed", c.name)
	}
	if !slices.Equal(args, c.args) {
		t.Errorf("%s: the arguments were changed to %v", c.name, args)
	}
}

// holdFuel is SP3 of a trial, which leaves a state.
func holdFuel(t *testing.T, c trial, left *inst.State) {
	t.Helper()
	if c.trap == api.Fuel {
		return
	}
	for fuel := range min(c.used, 60) {
		// From the end on, as there it is told whether the last step was counted.
		fuel = c.used - 1 - fuel
		want := inst.Outcome{Trap: api.Fuel, Used: fuel}
		if got := call(t, machine(t, c.module()), 0, c.args, fuel); !same(got, want) {
			t.Errorf("%s with fuel %d of %d: %v, want %v", c.name, fuel, c.used, got, want)
		}
	}
	for _, fuel := range []int{c.used, c.used + 1, c.used + 2, 2*c.used + 50, math.MaxInt} {
		x := machine(t, c.module())
		if got := call(t, x, 0, c.args, fuel); !same(got, c.want()) || !inst.Same(x.State(), left) {
			t.Errorf("%s with fuel %d of %d: %v, want %v and the same state", c.name, fuel, c.used, got, c.want())
		}
	}
}

func holdAll(t *testing.T, l []trial) {
	t.Helper()
	for _, c := range l {
		hold(t, c)
	}
}

// number is that of an error; 0 of none, -1 of one that has no number.
func number(err error) api.Errno {
	if err == nil {
		return 0
	}
	var n api.Errno
	if !errors.As(err, &n) {
		return -1
	}
	return n
}

// bytesOf is every byte of a state's memory.
func bytesOf(t *testing.T, s *inst.State) []byte {
	t.Helper()
	b, err := s.Mem.Bytes(0, s.Mem.Pages()*api.PageSize)
	if err != nil {
		t.Fatal(err)
	}
	return b
}

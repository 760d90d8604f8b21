package vrun_test

import (
	"errors"
	"fmt"
	"math"
	"slices"
	"testing"

	"mandrel/api"
	"mandrel/inst"
	"mandrel/notation"
	"mandrel/sample"
	"mandrel/vcode"
	"mandrel/vrun"
)

// plenty is more fuel than a test here uses up, unless it never ends.
const plenty = 1_000_000

// The numbers of what package sample's module has, which tells what these are.
const (
	typeNone   = sample.TypeNone
	typeI      = sample.TypeI
	typeBigI   = sample.TypeBigI
	typeII     = sample.TypeII
	typeTwo    = sample.TypeTwo
	typeMixed  = sample.TypeMixed
	typeTakesI = sample.TypeTakesI
	typeBigII  = sample.TypeBigII

	funcTold   = sample.FuncTold
	funcLess   = sample.FuncLess
	funcDigits = sample.FuncDigits
	funcPuts   = sample.FuncPuts
	funcBad    = sample.FuncBad
	funcEmpty  = sample.FuncEmpty
	funcBack   = sample.FuncBack
)

// bench is package sample's module. All its bodies are unreachable: what is done is what the code says.
func bench(typ uint32) api.Module {
	m := sample.Bench(typ, nil)
	for i := range m.Funcs {
		m.Funcs[i].Body = notation.Code("unreachable")
	}
	return m
}

// code is that of a type of bench: lines of instructions, and of blocks but for the first one's; it has eight registers.
func code(typ uint32, text string) vcode.Code {
	t := bench(typ).Types[typ]
	first := fmt.Sprintf("regs 8 params %d", len(t.Params))
	if t.Result != api.None {
		first += " result"
	}
	return notation.Virtual(first + "; block 0 depth 0; " + text)
}

// codes are those of bench: its function 0 has a noted one, the others do what package sample says.
func codes(typ uint32, text string) []vcode.Code {
	return []vcode.Code{
		code(typ, text),
		funcTold:   code(typeNone, "r0 = global.get 0; r1 = const 1; r0 = i32.add r0 r1; global.set r0 0; return"),
		funcLess:   code(typeTwo, "r0 = i32.sub r0 r1; return r0"),
		funcDigits: code(typeMixed, "r3 = const 100; r0 = i64.mul r0 r3; r0 = i64.add r0 r1; r0 = i64.mul r0 r3; r0 = i64.add r0 r2; return r0"),
		funcPuts:   code(typeTakesI, "r1 = const 100; i32.store r1 r0 +0; return"),
		funcBad:    code(typeNone, "unreachable"),
		funcEmpty:  code(typeNone, "return"),
		funcBack:   code(typeI, "r0 = const 21; jump -> 1; block 1 depth 1; return r0"),
	}
}

// The steps of some functions of bench.
const (
	stepsTold   = 5
	stepsLess   = 2
	stepsDigits = 6
	stepsBack   = 3
)

// trial is code of bench's function 0, what it is called with, and how it must end.
type trial struct {
	name   string
	typ    uint32
	text   string
	args   []uint64
	values []uint64
	trap   api.Trap
	used   int
}

func (c trial) want() inst.Outcome {
	return inst.Outcome{Values: c.values, Trap: c.trap, Used: c.used}
}

func (c trial) machine(t *testing.T) *vrun.Machine {
	t.Helper()
	return machine(t, bench(c.typ), codes(c.typ, c.text))
}

// with is arguments; give is what comes of them.
func with(args ...uint64) []uint64   { return args }
func give(values ...uint64) []uint64 { return values }

// machine is one for a module and code, which must have one.
func machine(t *testing.T, m api.Module, l []vcode.Code) *vrun.Machine {
	t.Helper()
	x, trap, err := vrun.New(m, l)
	if x == nil || trap != api.Well || err != nil {
		t.Fatalf("New: %v, %d, %v, want a machine", x, trap, err)
	}
	return x
}

// call is how a call ends, which is none that may not be.
func call(t *testing.T, x *vrun.Machine, f int, args []uint64, fuel int) inst.Outcome {
	t.Helper()
	o, err := x.Call(f, args, fuel)
	if err != nil {
		t.Fatalf("Call of %d with %v and fuel %d: %v", f, args, fuel, err)
	}
	return o
}

// same says whether calls ended the same.
func same(a, b inst.Outcome) bool {
	return slices.Equal(a.Values, b.Values) && a.Trap == b.Trap && a.Used == b.Used
}

// hold plays a trial with plenty of fuel, and then by VR3.
func hold(t *testing.T, c trial) {
	t.Helper()
	x := c.machine(t)
	if got := call(t, x, 0, c.args, plenty); !same(got, c.want()) {
		t.Errorf("%s (%s): %v, want %v", c.name, c.text, got, c.want())
		return
	}
	holdFuel(t, c, x.State())
}

func holdAll(t *testing.T, l []trial) {
	t.Helper()
	for _, c := range l {
		hold(t, c)
	}
}

// holdFuel is VR3 of a trial that ends, and leaves a state: with each fuel up to more than is used.
func holdFuel(t *testing.T, c trial, left *inst.State) {
	t.Helper()
	if c.trap == api.Fuel {
		return
	}
	for fuel := range c.used {
		want := inst.Outcome{Trap: api.Fuel, Used: fuel}
		if got := call(t, c.machine(t), 0, c.args, fuel); !same(got, want) {
			t.Errorf("%s with fuel %d of %d: %v, want %v", c.name, fuel, c.used, got, want)
		}
	}
	for _, fuel := range []int{c.used, c.used + 1, c.used + 2, 2*c.used + 50, math.MaxInt} {
		x := c.machine(t)
		if got := call(t, x, 0, c.args, fuel); !same(got, c.want()) || !inst.Same(x.State(), left) {
			t.Errorf("%s with fuel %d of %d: %v, want %v and the same state", c.name, fuel, c.used, got, c.want())
		}
	}
}

// number is that of an error; 0 of none, -1 of one that has no number.
func number(err error) api.Errno {
	if err == nil {
		return 0
	}
	var n api.Errno
	if !errors.As(err, &n) {
		return -1
	}
	return n
}

// bytesOf is every byte of a state's memory.
func bytesOf(t *testing.T, s *inst.State) []byte {
	t.Helper()
	b, err := s.Mem.Bytes(0, s.Mem.Pages()*api.PageSize)
	if err != nil {
		t.Fatal(err)
	}
	return b
}

// told is all of a value, as a text: it shares nothing with it.
func told(v ...any) string { return fmt.Sprintf("%#v", v) }

package spec_test

import (
	"errors"
	"math"
	"reflect"
	"slices"
	"testing"

	"mandrel/api"
	"mandrel/inst"
	"mandrel/notation"
	"mandrel/sample"
	"mandrel/spec"
)

// plenty is more fuel than a test here uses up, unless it never ends.
const plenty = 1_000_000

// code is the instructions of a note.
func code(text string) []api.Instr { return notation.Code(text) }

// The module that the tests here are made of, and the numbers of what it has: package sample tells what these are.
const (
	typeNone  = sample.TypeNone
	typeI     = sample.TypeI
	typeBigI  = sample.TypeBigI
	typeII    = sample.TypeII
	typeTwo   = sample.TypeTwo
	typeMixed = sample.TypeMixed

	funcTold  = sample.FuncTold
	funcPuts  = sample.FuncPuts
	funcEmpty = sample.FuncEmpty
	funcBack  = sample.FuncBack

	entryNone = sample.EntryNone
)

func bench(typ uint32, body []api.Instr) api.Module { return sample.Bench(typ, body) }

// trial is a body, what it is called with, and how it must end.
type trial struct {
	name   string
	typ    uint32
	text   string
	args   []uint64
	values []uint64
	trap   api.Trap
	used   int
}

func (c trial) module() api.Module { return bench(c.typ, code(c.text)) }

func (c trial) want() inst.Outcome {
	return inst.Outcome{Values: c.values, Trap: c.trap, Used: c.used}
}

// with is arguments; give is what comes of them.
func with(args ...uint64) []uint64   { return args }
func give(values ...uint64) []uint64 { return values }

// machine is one for a module, which must have one.
func machine(t *testing.T, m api.Module) *spec.Machine {
	t.Helper()
	x, trap, err := spec.New(m)
	if x == nil || trap != api.Well || err != nil {
		t.Fatalf("New: %v, %d, %v, want a machine", x, trap, err)
	}
	return x
}

// call is how a call ends, which is none that may not be.
func call(t *testing.T, x *spec.Machine, f int, args []uint64, fuel int) inst.Outcome {
	t.Helper()
	o, err := x.Call(f, args, fuel)
	if err != nil {
		t.Fatalf("Call of %d with %v and fuel %d: %v", f, args, fuel, err)
	}
	return o
}

// same says whether calls ended the same.
func same(a, b inst.Outcome) bool {
	return slices.Equal(a.Values, b.Values) && a.Trap == b.Trap && a.Used == b.Used
}

// hold plays a trial with plenty of fuel, and then with each lesser one, with just enough and with more.
func hold(t *testing.T, c trial) {
	t.Helper()
	m, args := c.module(), slices.Clone(c.args)
	x := machine(t, m)
	if got := call(t, x, 0, args, plenty); !same(got, c.want()) {
		t.Errorf("%s (%s): %v, want %v", c.name, c.text, got, c.want())
		return
	}
	holdFuel(t, c, x.State())
	if !reflect.DeepEqual(m, c.module()) {
		t.Errorf("%s: the module that was handed in was changed", c.name)
	}
	if !slices.Equal(args, c.args) {
		t.Errorf("%s: the arguments were changed to %v", c.name, args)
	}
}

// holdFuel is SP3 of a trial, which leaves a state.
func holdFuel(t *testing.T, c trial, left *inst.State) {
	t.Helper()
	if c.trap == api.Fuel {
		return
	}
	for fuel := range min(c.used, 60) {
		// From the end on, as there it is told whether the last step was counted.
		fuel = c.used - 1 - fuel
		want := inst.Outcome{Trap: api.Fuel, Used: fuel}
		if got := call(t, machine(t, c.module()), 0, c.args, fuel); !same(got, want) {
			t.Errorf("%s with fuel %d of %d: %v, want %v", c.name, fuel, c.used, got, want)
		}
	}
	for _, fuel := range []int{c.used, c.used + 1, c.used + 2, 2*c.used + 50, math.MaxInt} {
		x := machine(t, c.module())
		if got := call(t, x, 0, c.args, fuel); !same(got, c.want()) || !inst.Same(x.State(), left) {
			t.Errorf("%s with fuel %d of %d: %v, want %v and the same state", c.name, fuel, c.used, got, c.want())
		}
	}
}

func holdAll(t *testing.T, l []trial) {
	t.Helper()
	for _, c := range l {
		hold(t, c)
	}
}

// number is that of an error; 0 of none, -1 of one that has no number.
func number(err error) api.Errno {
	if err == nil {
		return 0
	}
	var n api.Errno
	if !errors.As(err, &n) {
		return -1
	}
	return n
}

// bytesOf is every byte of a state's memory.
func bytesOf(t *testing.T, s *inst.State) []byte {
	t.Helper()
	b, err := s.Mem.Bytes(0, s.Mem.Pages()*api.PageSize)
	if err != nil {
		t.Fatal(err)
	}
	return b
}

package spec_test

import (
	"math"
	"reflect"
	"slices"
	"testing"

	"mandrel/api"
	"mandrel/inst"
)

// SP2: what Call refuses, and how calls stand in one another.

func TestCallRefuses(t *testing.T) {
	x := machine(t, bench(typeMixed, code("unreachable")))
	for _, c := range []struct {
		name string
		f    int
		args []uint64
		fuel int
	}{
		{"no such function", 8, nil, 10},
		{"a function below 0", -1, nil, 10},
		{"a function far beyond", math.MaxInt, nil, 10},
		{"a function far below", math.MinInt, nil, 10},
		{"too few", 0, with(1, 2), 10},
		{"none", 0, nil, 10},
		{"too many", 0, with(1, 2, 3, 4), 10},
		{"one for none", funcTold, with(0), 10},
		{"2^32 for the first I32", 0, with(1<<32, 2, 3), 10},
		{"2^32 for the last I32", 0, with(1, 2, 1<<32), 10},
		{"below 0 for an I32", funcPuts, with(math.MaxUint64), 10},
		{"fuel -1", funcTold, nil, -1},
		{"the least fuel", funcTold, nil, math.MinInt},
		{"fuel -1 for no step", funcEmpty, nil, -1},
		{"all at once", 99, with(1 << 32), -5},
	} {
		args := slices.Clone(c.args)
		o, err := x.Call(c.f, args, c.fuel)
		if !reflect.DeepEqual(o, inst.Outcome{}) || number(err) != api.ErrArg {
			t.Errorf("%s: %v, %v, want ErrArg", c.name, o, err)
		}
		if !slices.Equal(args, c.args) {
			t.Errorf("%s: the arguments were changed to %v", c.name, args)
		}
	}
	if fresh := machine(t, bench(typeMixed, code("unreachable"))); !inst.Same(x.State(), fresh.State()) {
		t.Error("a call that was refused changed the state")
	}
}

func TestCallTakesTheGreatest(t *testing.T) {
	x := machine(t, bench(typeMixed, code("local.get 1")))
	for _, args := range [][]uint64{{1<<32 - 1, math.MaxUint64, 1<<32 - 1}, {0, 0, 0}, {0, 1 << 32, 0}} {
		want := inst.Outcome{Values: args[1:2], Used: 1}
		if o := call(t, x, 0, args, plenty); !same(o, want) {
			t.Errorf("%v: %v, want %v", args, o, want)
		}
	}
}

// TestArgumentsStay: a function that sets all its locals leaves what it was called with, and the room behind.
func TestArgumentsStay(t *testing.T) {
	m := bench(typeTwo, code("i32.const 5 local.set 0 i32.const 6 local.tee 1 local.get 0 i32.add"))
	m.Funcs[0].Locals = nil
	room := []uint64{1, 2, 3, 4, 5, 6}
	want := inst.Outcome{Values: give(11), Used: 6}
	if o := call(t, machine(t, m), 0, room[:2], plenty); !same(o, want) {
		t.Errorf("%v, want %v", o, want)
	}
	if !slices.Equal(room, []uint64{1, 2, 3, 4, 5, 6}) {
		t.Errorf("the arguments were changed: %v", room)
	}
}

func TestCalls(t *testing.T) {
	holdAll(t, []trial{
		{"a call of nothing", typeNone, "call 6", nil, nil, 0, 1},
		{"a call that gives nothing", typeNone, "call 1", nil, nil, 0, 5},
		{"the order of two arguments", typeI, "i32.const 9 i32.const 2 call 2", nil, give(7), 0, 6},
		{"the other order", typeI, "i32.const 2 i32.const 9 call 2", nil, give(1<<32 - 7), 0, 6},
		{"three arguments of both kinds", typeBigI, "i32.const 12 i64.const 34 i32.const 56 call 3", nil, give(123456), 0, 4 + 11},
		{"what stands beneath stays", typeI, "i32.const 100 i32.const 9 i32.const 2 call 2 i32.sub", nil, give(93), 0, 8},
		{"a call's value as an argument", typeI, "i32.const 50 i32.const 9 i32.const 2 call 2 call 2", nil, give(43), 0, 11},
		{"its own locals", typeTwo, "i32.const 9 i32.const 2 call 2 local.get 0 i32.add local.get 1 i32.add", with(100, 1000), give(1107), 0, 10},
		{"return in a call", typeI, "i32.const 5 call 7 i32.add", nil, give(26), 0, 9},
		{"a trap in a call", typeI, "i32.const 5 call 5 i32.const 7 i32.add", nil, nil, api.Unreachable, 3},
		{"a call out of blocks", typeI, "block i32 ( loop i32 ( i32.const 9 i32.const 2 call 2 br 1 ) )", nil, give(7), 0, 9},
		{"itself", typeII, "local.get 0 if i32 ( local.get 0 i32.const 1 i32.sub call 0 local.get 0 i32.add ) else ( i32.const 1000 )", with(4), give(1010), 0, 4*8 + 3},

		{"indirect, of nothing", typeNone, "i32.const 0 call_indirect 0", nil, nil, 0, 6},
		{"indirect, by the same type of another number", typeNone, "i32.const 0 call_indirect 8", nil, nil, 0, 6},
		{"indirect, two arguments", typeI, "i32.const 9 i32.const 2 i32.const 1 call_indirect 4", nil, give(7), 0, 7},
		{"indirect, three arguments", typeBigI, "i32.const 12 i64.const 34 i32.const 56 i32.const 2 call_indirect 5", nil, give(123456), 0, 5 + 11},
		{"indirect, what stands beneath stays", typeI, "i32.const 100 i32.const 9 i32.const 2 i32.const 1 call_indirect 4 i32.sub", nil, give(93), 0, 9},
		{"indirect, a trap within", typeNone, "i32.const 5 call_indirect 0", nil, nil, api.Unreachable, 3},
		{"indirect, no function", typeNone, "i32.const 6 call_indirect 0", nil, nil, api.Element, 2},
		{"indirect, just beyond the table", typeNone, "i32.const 7 call_indirect 0", nil, nil, api.Element, 2},
		{"indirect, below 0", typeNone, "i32.const -1 call_indirect 0", nil, nil, api.Element, 2},
		{"indirect, by another Result", typeNone, "i32.const 0 call_indirect 1 drop", nil, nil, api.Mismatch, 2},
		{"indirect, by other Params", typeNone, "i32.const 3 call_indirect 0", nil, nil, api.Mismatch, 2},
		{"indirect, by fewer Params", typeI, "i32.const 9 i32.const 1 call_indirect 3", nil, nil, api.Mismatch, 3},
	})
}

// deep calls itself as many times as its argument says.
const deep = "local.get 0 if i32 ( local.get 0 i32.const 1 i32.sub call 0 ) else ( i32.const 7 )"

func TestDepth(t *testing.T) {
	holdAll(t, []trial{
		{"64 calls in one another", typeII, deep, with(63), give(7), 0, 63*6 + 3},
		{"one more", typeII, deep, with(64), nil, api.Depth, 64 * 6},
		{"no end", typeII, deep, with(1<<32 - 1), nil, api.Depth, 64 * 6},
		{"without anything else", typeNone, "call 0", nil, nil, api.Depth, 64},
		{"indirectly", typeNone, "i32.const 4 call_indirect 0", nil, nil, api.Depth, 128},
		{"64, the last one indirectly to nothing", typeII, "local.get 0 if i32 ( local.get 0 i32.const 1 i32.sub call 0 ) else ( i32.const 6 call_indirect 1 )", with(63), nil, api.Element, 63*6 + 4},
		{"64, the last one indirectly to another type", typeII, "local.get 0 if i32 ( local.get 0 i32.const 1 i32.sub call 0 ) else ( i32.const 0 call_indirect 1 )", with(63), nil, api.Mismatch, 63*6 + 4},
		{"64, and a call out of the last one", typeII, "local.get 0 if i32 ( local.get 0 i32.const 1 i32.sub call 0 ) else ( call 7 )", with(63), nil, api.Depth, 63*6 + 3},
		{"63, and a call out of the last one", typeII, "local.get 0 if i32 ( local.get 0 i32.const 1 i32.sub call 0 ) else ( call 7 )", with(62), give(21), 0, 62*6 + 3 + 6},
		{"one behind another they do not count", typeII, "loop ( call 1 local.get 0 i32.const 1 i32.sub local.tee 0 br_if 0 ) global.get 0", with(200), give(205), 0, 1 + 200*10 + 1},
		{"blocks do not count", typeII, "block i32 ( block i32 ( loop i32 ( " + deep + " ) ) )", with(63), give(7), 0, 63*9 + 6},
	})
}

// TestDepthBegins: a call from outside counts anew, behind a trap too.
func TestDepthBegins(t *testing.T) {
	x := machine(t, bench(typeII, code(deep)))
	for range 3 {
		if o := call(t, x, 0, with(64), plenty); o.Trap != api.Depth {
			t.Errorf("64 in it: %v", o)
		}
		if o := call(t, x, 0, with(63), plenty); !same(o, inst.Outcome{Values: give(7), Used: 63*6 + 3}) {
			t.Errorf("63 in it: %v", o)
		}
	}
}

// TestStateStays: what was done ahead of a trap stays, and the next call finds it.
func TestStateStays(t *testing.T) {
	for _, c := range []struct {
		end  string
		trap api.Trap
		fuel int
	}{
		{"", api.Well, plenty},
		{"unreachable", api.Unreachable, plenty},
		{"call 5", api.Unreachable, plenty},
		{"i32.const 1 i32.const 0 i32.div_u drop", api.Zero, plenty},
		{"i32.const -2147483648 i32.const -1 i32.div_s drop", api.Overflow, plenty},
		{"i32.const 12288 i32.load8_u 0 drop", api.Bounds, plenty},
		{"i32.const 6 call_indirect 0", api.Element, plenty},
		{"i32.const 1 call_indirect 0", api.Mismatch, plenty},
		{"loop ( br 0 )", api.Fuel, plenty},
		{"nop", api.Fuel, 15},
	} {
		text := "i32.const 7 call 4 i64.const 8 global.set 2 call 1 i32.const 1 memory.grow drop " + c.end
		x := machine(t, bench(typeNone, code(text)))
		for i := range uint64(2) {
			o := call(t, x, 0, nil, c.fuel)
			s := x.State()
			v, _ := s.Mem.Load(100, 0, 4)
			if o.Trap != c.trap || v != 7 || s.Globals[2] != 8 || s.Globals[0] != 6+i || s.Mem.Pages() != int(2+i) {
				t.Errorf("%s, the call %d: %v; stored %d, globals %v, %d pages", text, i, o, v, s.Globals, s.Mem.Pages())
			}
		}
		if o := call(t, x, funcBack, nil, plenty); !same(o, inst.Outcome{Values: give(21), Used: 6}) {
			t.Errorf("%s, another function behind it: %v", text, o)
		}
	}
}

// TestTrapOfAStep: what traps has done nothing itself, a store's bytes that would be there neither.
func TestTrapOfAStep(t *testing.T) {
	x := machine(t, bench(typeNone, code("i32.const 4093 i32.const -1 i32.store 0")))
	before := bytesOf(t, x.State())
	if o := call(t, x, 0, nil, plenty); o.Trap != api.Bounds || o.Used != 3 {
		t.Errorf("%v, want Bounds", o)
	}
	if !slices.Equal(bytesOf(t, x.State()), before) {
		t.Error("bytes were changed")
	}
}

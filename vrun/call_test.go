package vrun_test

import (
	"fmt"
	"math"
	"reflect"
	"slices"
	"testing"

	"mandrel/api"
	"mandrel/inst"
	"mandrel/vcode"
)

// VR2: what Call refuses, and how calls stand in one another.

func TestCallRefuses(t *testing.T) {
	c := trial{typ: typeMixed, text: "call 1; unreachable"}
	x := c.machine(t)
	for _, c := range []struct {
		name string
		f    int
		args []uint64
		fuel int
	}{
		{"no such function", 8, nil, 10},
		{"a function below 0", -1, nil, 10},
		{"a function far beyond", math.MaxInt, nil, 10},
		{"a function far below", math.MinInt, nil, 10},
		{"too few", 0, with(1, 2), 10},
		{"none", 0, nil, 10},
		{"too many", 0, with(1, 2, 3, 4), 10},
		{"as many as there are registers", 0, make([]uint64, 8), 10},
		{"one for none", funcTold, with(0), 10},
		{"2^32 for the first I32", 0, with(1<<32, 2, 3), 10},
		{"2^32 for the last I32", 0, with(1, 2, 1<<32), 10},
		{"below 0 for an I32", funcPuts, with(math.MaxUint64), 10},
		{"fuel -1", funcTold, nil, -1},
		{"the least fuel", funcTold, nil, math.MinInt},
		{"all at once", 99, with(1 << 32), -5},
	} {
		args := slices.Clone(c.args)
		o, err := x.Call(c.f, args, c.fuel)
		if !reflect.DeepEqual(o, inst.Outcome{}) || number(err) != api.ErrArg {
			t.Errorf("%s: %v, %v, want ErrArg", c.name, o, err)
		}
		if !slices.Equal(args, c.args) {
			t.Errorf("%s: the arguments were changed to %v", c.name, args)
		}
	}
	if !inst.Same(x.State(), c.machine(t).State()) {
		t.Error("a call that was refused changed the state")
	}
}

// TestArguments: they stand in the first registers, the greatest ones too; noughts stand in all others.
func TestArguments(t *testing.T) {
	for _, args := range [][]uint64{{1<<32 - 1, math.MaxUint64, 1<<32 - 1}, {0, 0, 0}, {7, 1 << 32, 9}} {
		for r := range 8 {
			want := uint64(0)
			if r < len(args) {
				want = args[r]
			}
			hold(t, trial{"a register", typeMixed, fmt.Sprintf("return r%d", r), args, give(want), 0, 1})
		}
	}
}

func TestCalls(t *testing.T) {
	const three = "r0 = const 12; r1 = const 34; r2 = const 56; "
	holdAll(t, []trial{
		{"a call of nothing", typeNone, "call 6; return", nil, nil, 0, 3},
		{"a call that gives nothing", typeI, "call 1; r0 = global.get 0; return r0", nil, give(6), 0, 3 + stepsTold},
		{"the order of two", typeTwo, "r7 = call r0 r1 2; return r7", with(9, 2), give(7), 0, 2 + stepsLess},
		{"the other order", typeTwo, "r7 = call r1 r0 2; return r7", with(9, 2), give(1<<32 - 7), 0, 2 + stepsLess},
		{"one register twice", typeTwo, "r7 = call r1 r1 2; return r7", with(9, 2), give(0), 0, 2 + stepsLess},
		{"three", typeBigI, three + "r0 = call r0 r1 r2 3; return r0", nil, give(123456), 0, 5 + stepsDigits},
		{"three in another order", typeBigI, three + "r2 = call r2 r0 r1 3; return r2", nil, give(561234), 0, 5 + stepsDigits},
		{"no other register is given to", typeBigI, three + "r7 = call r0 r1 r2 3; r5 = i64.add r0 r1; r5 = i64.add r5 r2; return r5", nil, give(102), 0, 7 + stepsDigits},
		{"a value of more than 32 bits is handed on", typeBigI, "r1 = const 4294967296; r7 = call r0 r1 r2 3; return r7", nil, give(429496729600), 0, 3 + stepsDigits},
		{"jumps in a call", typeI, "r3 = call 7; r3 = i32.add r3 r3; return r3", nil, give(42), 0, 3 + stepsBack},
		{"a trap in a call", typeI, "r3 = call 7; call 5; return r3", nil, nil, api.Unreachable, 1 + stepsBack + 2},
		{"itself", typeII, "branch r0 -> 1 2; block 1 depth 0; r2 = const 1; r1 = i32.sub r0 r2; r1 = call r1 0; r1 = i32.add r1 r0; return r1; block 2 depth 0; r1 = const 1000; return r1", with(4), give(1010), 0, 4*6 + 3},

		{"indirect, of nothing", typeNone, "call_indirect r0 0; return", nil, nil, 0, 2 + stepsTold},
		{"indirect, by the same type of another number", typeNone, "call_indirect r0 8; return", nil, nil, 0, 2 + stepsTold},
		{"indirect, two", typeTwo, "r2 = const 1; r3 = call_indirect r2 r0 r1 4; return r3", with(9, 2), give(7), 0, 3 + stepsLess},
		{"indirect, three", typeBigI, three + "r4 = const 2; r4 = call_indirect r4 r0 r1 r2 5; return r4", nil, give(123456), 0, 6 + stepsDigits},
		{"indirect, by more than 32 bits", typeTwo, "r2 = const 4294967297; r3 = call_indirect r2 r0 r1 4; return r3", with(9, 2), give(7), 0, 3 + stepsLess},
		{"indirect, by a number below 0", typeTwo, "r2 = const -4294967295; r3 = call_indirect r2 r0 r1 4; return r3", with(9, 2), give(7), 0, 3 + stepsLess},
		{"indirect, the place as an argument, too", typeI, "r2 = const 1; r3 = call_indirect r2 r2 r2 4; return r3", nil, give(0), 0, 3 + stepsLess},
		{"indirect, a trap within", typeNone, "r0 = const 5; call_indirect r0 0; return", nil, nil, api.Unreachable, 3},
		{"indirect, no function", typeNone, "r0 = const 6; call_indirect r0 0; return", nil, nil, api.Element, 2},
		{"indirect, just beyond the table", typeNone, "r0 = const 7; call_indirect r0 0; return", nil, nil, api.Element, 2},
		{"indirect, below 0", typeNone, "r0 = const -1; call_indirect r0 0; return", nil, nil, api.Element, 2},
		{"indirect, by another Result", typeNone, "r0 = call_indirect r0 1; return", nil, nil, api.Mismatch, 1},
		{"indirect, by other Params", typeNone, "r0 = const 3; call_indirect r0 0; return", nil, nil, api.Mismatch, 2},
		{"indirect, by fewer Params", typeI, "r0 = const 1; r0 = call_indirect r0 r0 3; return r0", nil, nil, api.Mismatch, 2},
	})
}

// deep calls itself as many times as its argument says, and then goes on as the text says. A call within costs five steps.
func deep(text string) string {
	return "branch r0 -> 1 2; block 1 depth 0; r1 = const 1; r0 = i32.sub r0 r1; r0 = call r0 0; return r0; block 2 depth 0; " + text
}

func TestDepth(t *testing.T) {
	holdAll(t, []trial{
		{"64 calls in one another", typeII, deep("r0 = const 7; return r0"), with(63), give(7), 0, 63*5 + 3},
		{"one more", typeII, deep("r0 = const 7; return r0"), with(64), nil, api.Depth, 64 * 4},
		{"no end", typeII, deep("r0 = const 7; return r0"), with(1<<32 - 1), nil, api.Depth, 64 * 4},
		{"without anything else", typeNone, "call 0; return", nil, nil, api.Depth, 64},
		{"indirectly", typeNone, "r0 = const 4; call_indirect r0 0; return", nil, nil, api.Depth, 128},
		{"64, the last one indirectly to nothing", typeII, deep("r0 = const 6; r0 = call_indirect r0 1; return r0"), with(63), nil, api.Element, 63*4 + 3},
		{"64, the last one indirectly to another type", typeII, deep("r0 = call_indirect r0 1; return r0"), with(63), nil, api.Mismatch, 63*4 + 2},
		{"64, and an indirect call out of the last one", typeII, deep("r0 = const 4; r0 = call_indirect r0 r0 3; return r0"), with(63), nil, api.Depth, 63*4 + 3},
		{"64, and a call out of the last one", typeII, deep("r0 = call 7; return r0"), with(63), nil, api.Depth, 63*4 + 2},
		{"63, and a call out of the last one", typeII, deep("r0 = call 7; return r0"), with(62), give(21), 0, 62*5 + 3 + stepsBack},
		{"one behind another they do not count", typeII, "r1 = const 1; jump -> 1; block 1 depth 1; call 6; r0 = i32.sub r0 r1; branch r0 -> 1 2; block 2 depth 0; return r0", with(200), give(0), 0, 2 + 200*4 + 1},
	})
}

// TestOneAnother: two functions that call each other, one of them by the table.
func TestOneAnother(t *testing.T) {
	m := bench(typeII)
	m.Funcs = append(m.Funcs, api.Func{Type: typeII, Body: m.Funcs[0].Body})
	odd := code(typeII, "branch r0 -> 1 2; block 1 depth 0; r1 = const 1; r0 = i32.sub r0 r1; r2 = const 4; r0 = call_indirect r2 r0 3; return r0; block 2 depth 0; r0 = const 77; return r0")
	even := "branch r0 -> 1 2; block 1 depth 0; r1 = const 1; r0 = i32.sub r0 r1; r0 = call r0 8; return r0; block 2 depth 0; r0 = const 66; return r0"
	for n := range uint64(70) {
		x := machine(t, m, append(codes(typeII, even), odd))
		want := inst.Outcome{Values: give(66 + n%2*11), Used: int(n/2*11+n%2*5) + 3}
		if n > 63 {
			want = inst.Outcome{Trap: api.Depth, Used: 32*4 + 32*5}
		}
		if o := call(t, x, 0, with(n), plenty); !same(o, want) {
			t.Errorf("%d: %v, want %v", n, o, want)
		}
	}
}

// TestDepthBegins: a call from outside counts anew, behind a trap too.
func TestDepthBegins(t *testing.T) {
	x := trial{typ: typeII, text: deep("r0 = const 7; return r0")}.machine(t)
	for range 3 {
		if o := call(t, x, 0, with(64), plenty); o.Trap != api.Depth {
			t.Errorf("64 in it: %v", o)
		}
		if o := call(t, x, 0, with(63), plenty); !same(o, inst.Outcome{Values: give(7), Used: 63*5 + 3}) {
			t.Errorf("63 in it: %v", o)
		}
	}
}

// TestNoughts: each call begins with them in all registers but its arguments, however often it is called, from outside, within, in itself, and behind a trap.
func TestNoughts(t *testing.T) {
	// It gives the sum of all its registers, and leaves none of them as it was.
	sum := "r0 = i32.add r0 r1; r0 = i32.add r0 r2; r0 = i32.add r0 r3; r0 = i32.add r0 r4; r0 = i32.add r0 r5; r0 = i32.add r0 r6; r0 = i32.add r0 r7; "
	for r := 1; r < 8; r++ {
		sum += fmt.Sprintf("r%d = const 100; ", r)
	}
	m := bench(typeII)
	m.Funcs = append(m.Funcs, m.Funcs[0], m.Funcs[0])
	l := append(codes(typeII, "r1 = call r0 8; r2 = call r1 8; r3 = call r2 8; r4 = const 1; r4 = call r4 9; r3 = i32.add r3 r4; return r3"),
		code(typeII, sum+"return r0"),
		code(typeII, sum+"branch r0 -> 1 2; block 1 depth 0; r1 = const 0; r1 = call r1 9; r0 = i32.add r0 r1; return r0; block 2 depth 0; return r0"))
	x := machine(t, m, l)
	for range 3 {
		for _, fuel := range []int{20, plenty} {
			o := call(t, x, 0, with(5), fuel)
			if want := give(6); fuel == plenty && !slices.Equal(o.Values, want) {
				t.Errorf("%v, want %v", o, want)
			}
		}
		if o := call(t, x, 8, with(9), plenty); !slices.Equal(o.Values, give(9)) {
			t.Errorf("%v, want 9", o)
		}
	}
}

// TestStateStays: what was done ahead of a trap stays, and the next call finds it.
func TestStateStays(t *testing.T) {
	for _, c := range []struct {
		end  string
		trap api.Trap
		fuel int
	}{
		{"return", api.Well, plenty},
		{"unreachable", api.Unreachable, plenty},
		{"call 5; return", api.Unreachable, plenty},
		{"r0 = i32.div_u r0 r7; return", api.Zero, plenty},
		{"r0 = const -2147483648; r1 = const -1; r0 = i32.div_s r0 r1; return", api.Overflow, plenty},
		{"r0 = const 12288; r0 = i32.load8_u r0 +0; return", api.Bounds, plenty},
		{"r0 = const 6; call_indirect r0 0; return", api.Element, plenty},
		{"r0 = const 3; call_indirect r0 0; return", api.Mismatch, plenty},
		{"call 0; return", api.Depth, plenty},
		{"jump -> 1; block 1 depth 1; jump -> 1", api.Fuel, plenty},
		{"return", api.Fuel, 15},
	} {
		text := "r0 = const 7; call r0 4; r1 = const 8; global.set r1 2; call 1; r2 = const 1; r2 = memory.grow r2; " + c.end
		x := trial{typ: typeNone, text: text}.machine(t)
		for i := range uint64(2) {
			before := x.State().Globals[0]
			o := call(t, x, 0, nil, c.fuel)
			s := x.State()
			v, _ := s.Mem.Load(100, 0, 4)
			more := uint64(1)
			if c.trap == api.Depth {
				// The last one can't call others.
				more = api.MaxDepth - 1
			}
			if o.Trap != c.trap || v != 7 || s.Globals[2] != 8 || s.Globals[0] != before+more || s.Mem.Pages() != int(min(1+more*(i+1), 3)) {
				t.Errorf("%s, the call %d: %v; stored %d, globals %v, %d pages", text, i, o, v, s.Globals, s.Mem.Pages())
			}
		}
		if o := call(t, x, funcBack, nil, plenty); !same(o, inst.Outcome{Values: give(21), Used: stepsBack}) {
			t.Errorf("%s, another function behind it: %v", text, o)
		}
	}
}

// TestMost: as many parameters and registers as there may be, in as many calls.
func TestMost(t *testing.T) {
	const many = vcode.MaxRegs
	m := api.Module{
		Types: []api.Type{{Params: slices.Repeat([]api.Kind{api.I64}, many), Result: api.I64}},
		Funcs: []api.Func{{Body: bench(typeNone).Funcs[0].Body}},
	}
	// Each call hands on its arguments, the last one first, till the first one is 0.
	turned := vcode.Ins{Op: 0x10, Dst: 0, Src: make([]int, many)}
	for i := range turned.Src {
		turned.Src[i] = many - 1 - i
	}
	back := vcode.Ins{Op: 0x0f, Dst: -1, Src: []int{0}}
	c := vcode.Code{Params: many, Regs: many, Result: true, Blocks: []vcode.Block{
		{Ins: []vcode.Ins{{Op: vcode.Branch, Dst: -1, Src: []int{0}}}, Next: []int{1, 2}},
		{Ins: []vcode.Ins{turned, back}},
		{Ins: []vcode.Ins{{Op: vcode.Move, Dst: 0, Src: []int{many / 2}}, back}},
	}}
	args := make([]uint64, many)
	for i := range args {
		args[i] = uint64(i) + 1
	}
	args[many-1] = 0
	x := machine(t, m, []vcode.Code{c})
	if o := call(t, x, 0, args, plenty); !same(o, inst.Outcome{Values: give(many / 2), Used: 3 + 3}) {
		t.Errorf("turned once: %v", o)
	}
	args[many-1] = 1
	if o := call(t, x, 0, args, plenty); !same(o, inst.Outcome{Trap: api.Depth, Used: 2 * api.MaxDepth}) {
		t.Errorf("turned again and again: %v", o)
	}
}

// TestAnswersShareNothing: what one call gave stays, whatever is called later.
func TestAnswersShareNothing(t *testing.T) {
	x := trial{typ: typeII, text: "return r0"}.machine(t)
	args := with(5)
	first := call(t, x, 0, args, plenty)
	args[0] = 6
	second := call(t, x, 0, args, plenty)
	if first.Values[0] != 5 || second.Values[0] != 6 {
		t.Errorf("%v, %v", first, second)
	}
	second.Values[0] = 7
	if first.Values[0] != 5 || args[0] != 6 {
		t.Errorf("%v, %v", first, args)
	}
}

// TestNothingBehindATrap: neither the call in which it comes nor those about it go on.
func TestNothingBehindATrap(t *testing.T) {
	for _, bad := range []string{"unreachable", "call 5; call 1; return", "r0 = call_indirect r0 r0 3; call 1; return", "r0 = i64.rem_u r0 r0; call 1; return"} {
		m := bench(typeNone)
		m.Funcs = append(m.Funcs, m.Funcs[0])
		x := machine(t, m, append(codes(typeNone, "call 8; call 1; return"), code(typeNone, bad)))
		before := machine(t, m, append(codes(typeNone, "return"), code(typeNone, "return"))).State()
		if o := call(t, x, 0, nil, plenty); o.Trap == api.Well || len(o.Values) > 0 || !inst.Same(x.State(), before) {
			t.Errorf("%s: %v, globals %v", bad, o, x.State().Globals)
		}
	}
}

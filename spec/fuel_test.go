package spec_test

import (
	"slices"
	"testing"

	"mandrel/api"
	"mandrel/inst"
)

// SP3. (hold asks it of each trial of the other files, too.)

func TestFuel(t *testing.T) {
	for _, c := range []struct {
		name string
		typ  uint32
		text string
		fuel int
		want inst.Outcome
	}{
		{"the example", typeI, "i32.const 7", 1, inst.Outcome{Values: give(7), Used: 1}},
		{"the example with more", typeI, "i32.const 7", 5, inst.Outcome{Values: give(7), Used: 1}},
		{"the example with 0", typeI, "i32.const 7", 0, inst.Outcome{Trap: api.Fuel}},
		{"an empty body with 0", typeNone, "", 0, inst.Outcome{}},
		{"an empty body with 1", typeNone, "", 1, inst.Outcome{}},
		{"nop with 0", typeNone, "nop", 0, inst.Outcome{Trap: api.Fuel}},
		{"unreachable with 0 is not come to", typeNone, "unreachable", 0, inst.Outcome{Trap: api.Fuel}},
		{"unreachable with 1", typeNone, "unreachable", 1, inst.Outcome{Trap: api.Unreachable, Used: 1}},
		{"the end of a block is no step", typeNone, "block ( block ( ) )", 2, inst.Outcome{Used: 2}},
		{"the end of a loop is no step", typeNone, "loop ( loop ( ) )", 2, inst.Outcome{Used: 2}},
		{"a loop's begin is none anew", typeNone, "loop ( i32.const 5 global.get 0 i32.const 1 i32.add global.set 0 global.get 0 i32.const 7 i32.ne br_if 0 drop )", 1 + 2*9 + 1, inst.Outcome{Used: 20}},
		{"the end of an if is no step", typeNone, "i32.const 0 if ( nop ) else ( )", 2, inst.Outcome{Used: 2}},
		{"a call of nothing is one step", typeNone, "call 6", 1, inst.Outcome{Used: 1}},
		{"one less than a call has", typeNone, "call 1", 4, inst.Outcome{Trap: api.Fuel, Used: 4}},
		{"a call, and nothing of it", typeNone, "call 1", 1, inst.Outcome{Trap: api.Fuel, Used: 1}},
		{"just what a call has", typeNone, "call 1", 5, inst.Outcome{Used: 5}},
		{"no fuel for the call that is too deep", typeNone, "call 0", 63, inst.Outcome{Trap: api.Fuel, Used: 63}},
		{"fuel for the call that is too deep", typeNone, "call 0", 64, inst.Outcome{Trap: api.Depth, Used: 64}},
		{"return is a step", typeNone, "return", 0, inst.Outcome{Trap: api.Fuel}},
	} {
		if got := call(t, machine(t, bench(c.typ, code(c.text))), 0, nil, c.fuel); !same(got, c.want) {
			t.Errorf("%s: %v, want %v", c.name, got, c.want)
		}
	}
}

// TestFuelIsOfACall: what one call used, or left, is nothing to the next one.
func TestFuelIsOfACall(t *testing.T) {
	x := machine(t, bench(typeI, code("call 1 global.get 0")))
	for i, fuel := range []int{100, 6, 5, 0, 6, 7, 1, 6} {
		before := x.State().Globals[0]
		o := call(t, x, 0, nil, fuel)
		want := inst.Outcome{Values: give(before + 1), Used: 6}
		if fuel < 6 {
			want = inst.Outcome{Trap: api.Fuel, Used: fuel}
		}
		if !same(o, want) {
			t.Errorf("call %d, with fuel %d: %v, want %v", i, fuel, o, want)
		}
	}
}

// TestLessFuelDoesTheFirstSteps: what is left is what so many steps do, and no more.
func TestLessFuelDoesTheFirstSteps(t *testing.T) {
	text := "i32.const 1 global.set 0 i32.const 0 i32.const 2 i32.store 0 i32.const 1 memory.grow drop i32.const 3 global.set 0"
	for fuel := range 12 {
		x := machine(t, bench(typeNone, code(text)))
		call(t, x, 0, nil, fuel)
		s := x.State()
		v, _ := s.Mem.Load(0, 0, 4)
		want := []uint64{5, 0, 1}
		for _, step := range []struct {
			n, at int
			v     uint64
		}{{2, 0, 1}, {5, 1, 2}, {7, 2, 2}, {10, 0, 3}} {
			if fuel >= step.n {
				want[step.at] = step.v
			}
		}
		if got := []uint64{s.Globals[0], v, uint64(s.Mem.Pages())}; !slices.Equal(got, want) {
			t.Errorf("fuel %d: %v, want %v", fuel, got, want)
		}
	}
}

// within is a list in so many blocks of a value.
func within(n int, l []api.Instr) []api.Instr {
	for range n {
		l = []api.Instr{{Op: 0x02, Result: api.I32, Body: l}}
	}
	return l
}

// TestManyBlocks: as many in one another as may be, and in each of 64 calls; neither is more than there is room for.
func TestManyBlocks(t *testing.T) {
	const most = 1<<16 - 8
	x := machine(t, bench(typeI, within(most, code("i32.const 7"))))
	if o := call(t, x, 0, nil, plenty); !same(o, inst.Outcome{Values: give(7), Used: most + 1}) {
		t.Errorf("blocks: %v", o)
	}
	x = machine(t, bench(typeI, within(most, append(code("i32.const 7"), api.Instr{Op: 0x0c, N: most}))))
	if o := call(t, x, 0, nil, plenty); !same(o, inst.Outcome{Values: give(7), Used: most + 2}) {
		t.Errorf("a branch out of them: %v", o)
	}
	x = machine(t, bench(typeI, within(most, code("call 0"))))
	if o := call(t, x, 0, nil, 10*plenty); !same(o, inst.Outcome{Trap: api.Depth, Used: 64 * (most + 1)}) {
		t.Errorf("calls out of them: %v", o)
	}
}

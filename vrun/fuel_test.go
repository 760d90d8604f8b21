package vrun_test

import (
	"slices"
	"testing"

	"mandrel/api"
	"mandrel/inst"
)

// VR3. (hold asks it of each trial of the other files, too.)

func TestFuel(t *testing.T) {
	for _, c := range []struct {
		name string
		typ  uint32
		text string
		fuel int
		want inst.Outcome
	}{
		{"the example with just enough", typeI, "r0 = const 7; return r0", 2, inst.Outcome{Values: give(7), Used: 2}},
		{"the example with more", typeI, "r0 = const 7; return r0", 5, inst.Outcome{Values: give(7), Used: 2}},
		{"the example with less", typeI, "r0 = const 7; return r0", 1, inst.Outcome{Trap: api.Fuel, Used: 1}},
		{"the example with none", typeI, "r0 = const 7; return r0", 0, inst.Outcome{Trap: api.Fuel}},
		{"return is a step", typeNone, "return", 0, inst.Outcome{Trap: api.Fuel}},
		{"unreachable with none is not come to", typeNone, "unreachable", 0, inst.Outcome{Trap: api.Fuel}},
		{"unreachable with one", typeNone, "unreachable", 1, inst.Outcome{Trap: api.Unreachable, Used: 1}},
		{"a jump is a step", typeNone, "jump -> 1; block 1 depth 0; return", 1, inst.Outcome{Trap: api.Fuel, Used: 1}},
		{"a call, and nothing of it", typeNone, "call 6; return", 1, inst.Outcome{Trap: api.Fuel, Used: 1}},
		{"a call, and nothing behind it", typeNone, "call 6; return", 2, inst.Outcome{Trap: api.Fuel, Used: 2}},
		{"one less than a call that traps has", typeNone, "call 5; return", 1, inst.Outcome{Trap: api.Fuel, Used: 1}},
		{"no fuel for the call that is too deep", typeNone, "call 0; return", 63, inst.Outcome{Trap: api.Fuel, Used: 63}},
		{"fuel for the call that is too deep", typeNone, "call 0; return", 64, inst.Outcome{Trap: api.Depth, Used: 64}},
	} {
		x := trial{typ: c.typ, text: c.text}.machine(t)
		if got := call(t, x, 0, nil, c.fuel); !same(got, c.want) {
			t.Errorf("%s: %v, want %v", c.name, got, c.want)
		}
	}
}

// TestFuelIsOfACall: what one call used, or left, is nothing to the next one.
func TestFuelIsOfACall(t *testing.T) {
	x := trial{typ: typeI, text: "call 1; r0 = global.get 0; return r0"}.machine(t)
	const all = 3 + stepsTold
	for i, fuel := range []int{100, all, all - 1, 0, all, all + 1, 1, all} {
		before := x.State().Globals[0]
		o := call(t, x, 0, nil, fuel)
		want := inst.Outcome{Values: give(before + 1), Used: all}
		if fuel < all {
			want = inst.Outcome{Trap: api.Fuel, Used: fuel}
		}
		if !same(o, want) {
			t.Errorf("call %d, with fuel %d: %v, want %v", i, fuel, o, want)
		}
	}
}

// TestLessFuelDoesTheFirstSteps: what is left is what so many steps do, and no more.
func TestLessFuelDoesTheFirstSteps(t *testing.T) {
	text := "r0 = const 1; global.set r0 0; r1 = const 2; i32.store r7 r1 +0; r2 = memory.grow r0; r3 = const 3; global.set r3 0; return"
	for fuel := range 10 {
		x := trial{typ: typeNone, text: text}.machine(t)
		call(t, x, 0, nil, fuel)
		s := x.State()
		v, _ := s.Mem.Load(0, 0, 4)
		want := []uint64{5, 0, 1}
		for _, step := range []struct {
			n, at int
			v     uint64
		}{{2, 0, 1}, {4, 1, 2}, {5, 2, 2}, {7, 0, 3}} {
			if fuel >= step.n {
				want[step.at] = step.v
			}
		}
		if got := []uint64{s.Globals[0], v, uint64(s.Mem.Pages())}; !slices.Equal(got, want) {
			t.Errorf("fuel %d: %v, want %v", fuel, got, want)
		}
	}
}

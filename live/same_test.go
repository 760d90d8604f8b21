package live_test

import (
	"fmt"
	"slices"
	"testing"

	"mandrel/api"
	"mandrel/inst"
	"mandrel/live"
	"mandrel/lower"
	"mandrel/notation"
	"mandrel/opcode"
	"mandrel/sample"
	"mandrel/vcode"
	"mandrel/vrun"
)

// LI3: what is done by layer 13, whatever value registers have where they are not needed.

// laid is code with consts laid in, twice.
type laid struct {
	idle  vcode.Code // they give to a register that nothing takes
	other vcode.Code // they give to registers of the code
}

// laidIn lays consts at the begin of each block, and behind each of its instructions but the end, if within: for the registers that are chosen, by those that are needed there. Both codes take as many steps.
func laidIn(t *testing.T, k *sample.Maker, c vcode.Code, within bool, chosen func(needed live.Set, r int) bool) laid {
	t.Helper()
	begins := must[[]live.Set](t, "In")(live.In(c))
	l := laid{vcode.Clone(c), vcode.Clone(c)}
	l.idle.Regs++
	l.other.Regs++
	for b, block := range c.Blocks {
		behind := must[[]live.Set](t, "Behind")(live.Behind(c, b))
		var idle, other []vcode.Ins
		put := func(needed live.Set) {
			for r := range c.Regs {
				if !chosen(needed, r) {
					continue
				}
				in := vcode.Ins{Op: opcode.Const64, Dst: r, N: sample.One[int64](k, 0, 1, 2, 7, -1, 1<<31, 1<<32, 1<<62, 64, 4096)}
				other = append(other, in)
				in.Dst = c.Regs
				idle = append(idle, in)
			}
		}
		put(begins[b])
		for i, in := range block.Ins {
			idle, other = append(idle, in), append(other, in)
			if within && i < len(block.Ins)-1 {
				put(behind[i])
			}
		}
		l.idle.Blocks[b].Ins, l.other.Blocks[b].Ins = idle, other
	}
	return l
}

func notNeeded(needed live.Set, r int) bool { return !needed.Has(r) }

// both lays into all codes of a module.
func both(t *testing.T, k *sample.Maker, l []vcode.Code, within bool) (idle, other []vcode.Code) {
	t.Helper()
	for _, c := range l {
		made := laidIn(t, k, c, within, notNeeded)
		idle, other = append(idle, made.idle), append(other, made.other)
	}
	return idle, other
}

func machine(t *testing.T, m api.Module, l []vcode.Code) *vrun.Machine {
	t.Helper()
	x, trap, err := vrun.New(m, l)
	if err != nil {
		t.Fatalf("New: %d, %v: %v", trap, err, l)
	}
	return x
}

// asked is a call that is asked for, with fuel.
type asked struct {
	f    int
	args []uint64
	fuel int
}

// ends counts how calls ended, by their traps.
type ends [api.Fuel + 1]int

// same makes all calls, one after another, by two codes of a module, and tells whether each ended the same, in as many steps, and left the same.
func same(t *testing.T, m api.Module, a, b []vcode.Code, calls []asked, count *ends) bool {
	t.Helper()
	x, y := machine(t, m, a), machine(t, m, b)
	for _, c := range calls {
		want := must[inst.Outcome](t, "Call")(x.Call(c.f, c.args, c.fuel))
		got := must[inst.Outcome](t, "Call")(y.Call(c.f, c.args, c.fuel))
		if got.Trap != want.Trap || got.Used != want.Used || !slices.Equal(got.Values, want.Values) || !inst.Same(x.State(), y.State()) {
			return false
		}
		count[want.Trap]++
	}
	return true
}

// holdSame holds that codes do the same with other values where these are not needed.
func holdSame(t *testing.T, k *sample.Maker, m api.Module, l []vcode.Code, calls []asked, count *ends) {
	t.Helper()
	for _, within := range []bool{false, true} {
		idle, other := both(t, k, l, within)
		if !same(t, m, idle, other, calls, count) {
			t.Fatalf("not the same by %v: %v, made %v", calls, l, other)
		}
	}
}

// bench is package sample's module with a function 0 of a type that has other code.
func bench(t *testing.T, typ uint32, c vcode.Code) (api.Module, []vcode.Code) {
	t.Helper()
	m := sample.Bench(typ, notation.Code("unreachable"))
	l := must[[]vcode.Code](t, "All")(lower.All(m))
	l[0] = c
	return m, l
}

// noteds are blocks of a function that takes an I32 and gives one, of 6 registers.
func noteds() []string {
	const told, less, puts = sample.FuncTold, sample.FuncLess, sample.FuncPuts
	return []string{
		"block 0 depth 0; return r0",
		"block 0 depth 0; r1 = i32.add r0 r0; return r1",
		"block 0 depth 0; r0 = i32.div_u r0 r5; return r0",
		"block 0 depth 0; r1 = const 3; r0 = i32.rem_u r0 r1; table r0 -> 1 2 3; block 1 depth 0; r2 = const 8; jump -> 3; block 2 depth 0; r2 = move r0; jump -> 3; block 3 depth 0; return r2",
		"block 0 depth 0; branch r0 -> 1 2; block 1 depth 0; r1 = const 5; jump -> 3; block 2 depth 0; jump -> 3; block 3 depth 0; return r1",
		"block 0 depth 0; r1 = const 1; jump -> 1; block 1 depth 1; branch r0 -> 2 3; block 2 depth 1; r2 = i32.add r2 r1; r0 = i32.sub r0 r1; jump -> 1; block 3 depth 0; return r2",
		"block 0 depth 0; r1 = const 1; jump -> 1; block 1 depth 1; r3 = move r4; r4 = move r2; branch r0 -> 2 3; block 2 depth 1; r2 = i32.add r2 r1; r0 = i32.sub r0 r1; jump -> 1; block 3 depth 0; return r3",
		"block 0 depth 0; r1 = const 1; jump -> 1; block 1 depth 1; r3 = const 3; jump -> 2; block 2 depth 2; r3 = i32.sub r3 r1; r2 = i32.add r2 r3; branch r3 -> 2 3; block 3 depth 1; r0 = i32.sub r0 r1; branch r0 -> 1 4; block 4 depth 0; return r2",
		"block 0 depth 0; jump -> 0",
		fmt.Sprintf("block 0 depth 0; r1 = move r0; r1 = call r1 r0 %d; call r0 %d; r2 = global.get 0; global.set r1 0; call %d; r0 = i32.add r1 r2; return r0", less, puts, told),
		"block 0 depth 0; branch r0 -> 1 2; block 1 depth 0; r1 = const 1; r2 = i32.sub r0 r1; r2 = call r2 0; r2 = i32.add r2 r0; return r2; block 2 depth 0; return r0",
		"block 0 depth 0; i32.store r0 r0 +4050; r2 = i32.load r0 +4050; return r2",
		"block 0 depth 0; call_indirect r0 0; return r0",
		"block 0 depth 0; r1 = const 1; r2 = call_indirect r0 r0 r1 4; return r2",
		"block 0 depth 0; r1 = const 1; r1 = memory.grow r1; r2 = memory.size; r1 = i32.add r1 r2; return r1",
		"block 0 depth 0; r1 = const 2; r0 = i32.lt_u r0 r1; branch r0 -> 1 2; block 1 depth 0; unreachable; block 2 depth 0; return r0",
		fmt.Sprintf("block 0 depth 0; return r0; block 1 depth 0; call %d; branch r1 -> 1 0", told),
		"block 0 depth 0; r1 = const -2147483648; r2 = i32.div_s r1 r0; return r2",
		"block 0 depth 0; r1 = call r0 0; return r1",
	}
}

func TestNotedDoTheSame(t *testing.T) {
	k := makerOf(163)
	var count ends
	for _, text := range noteds() {
		m, l := bench(t, sample.TypeII, notation.Virtual("regs 6 params 1 result; "+text))
		for _, fuel := range []int{60, 3000} {
			var calls []asked
			for _, arg := range []uint64{0, 1, 2, 3, 4, 5, 6, 7, 8, 42, 43, 100, 1 << 31, 1<<32 - 1} {
				calls = append(calls, asked{0, []uint64{arg}, fuel}, asked{sample.FuncTold, nil, fuel})
			}
			holdSame(t, k, m, l, calls, &count)
		}
	}
	for trap, n := range count {
		if n < 4 {
			t.Errorf("the trap %d ends only %d calls: %v", trap, n, count)
		}
	}
}

// TestShapedDoTheSame: with other values where they are not needed shaped code does the same; with other ones where they are needed much of it does not.
func TestShapedDoTheSame(t *testing.T) {
	k := makerOf(164)
	var count, rest ends
	differ := 0
	for _, c := range []struct {
		typ    uint32
		params int
		result bool
	}{{sample.TypeNone, 0, false}, {sample.TypeBigI, 0, true}, {sample.TypeBigII, 1, true}} {
		for range 1500 {
			regs := 1 + k.Intn(6)
			code := shaped(k, c.params, regs, few(regs), c.result)
			m, l := bench(t, c.typ, code)
			var calls []asked
			for _, arg := range []uint64{0, 1, 2, 1 << 32, 1<<64 - 1} {
				calls = append(calls, asked{0, []uint64{arg}[:c.params], 200})
			}
			holdSame(t, k, m, l, calls, &count)

			made := laidIn(t, k, code, false, live.Set.Has)
			idle, other := slices.Clone(l), slices.Clone(l)
			idle[0], other[0] = made.idle, made.other
			if !same(t, m, idle, other, calls, &rest) {
				differ++
			}
		}
	}
	for _, trap := range []api.Trap{api.Well, api.Unreachable, api.Zero, api.Fuel} {
		if count[trap] < 200 {
			t.Errorf("the trap %d ends only %d calls: %v", trap, count[trap], count)
		}
	}
	if differ < 1500 {
		t.Errorf("with other values where they are needed only %d codes do something else", differ)
	}
}

// TestMadeDoTheSame: made code, and code of made bodies, by calls one after another.
func TestMadeDoTheSame(t *testing.T) {
	k := makerOf(165)
	var count ends
	for i := range 700 {
		m := k.Module()
		l := k.Codes(m)
		if i%4 == 0 {
			l = must[[]vcode.Code](t, "All")(lower.All(m))
		}
		var calls []asked
		for range 8 {
			f := k.Intn(len(m.Funcs))
			calls = append(calls, asked{f, k.Args(m, f), 5000})
		}
		if slices.ContainsFunc(l, func(c vcode.Code) bool { return vcode.Size(c)*(c.Regs+1) > api.MaxBody }) {
			continue
		}
		holdSame(t, k, m, l, calls, &count)
	}
	for trap, n := range count {
		if n < 20 {
			t.Errorf("the trap %d ends only %d calls: %v", trap, n, count)
		}
	}
}

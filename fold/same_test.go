package fold_test

import (
	"fmt"
	"slices"
	"testing"

	"mandrel/api"
	"mandrel/fold"
	"mandrel/inst"
	"mandrel/lower"
	"mandrel/notation"
	"mandrel/sample"
	"mandrel/vcode"
	"mandrel/vrun"
)

// FO3: what is done by layer 13.

// foldAll folds all codes.
func foldAll(t *testing.T, l []vcode.Code) []vcode.Code {
	t.Helper()
	out := slices.Clone(l)
	for i := range out {
		out[i] = must[vcode.Code](t, "Fold")(fold.Fold(out[i]))
	}
	return out
}

func machine(t *testing.T, m api.Module, l []vcode.Code) *vrun.Machine {
	t.Helper()
	x, trap, err := vrun.New(m, l)
	if err != nil {
		t.Fatalf("New: %d, %v: %v", trap, err, l)
	}
	return x
}

// asked is a call that is asked for, with fuel.
type asked struct {
	f    int
	args []uint64
	fuel int
}

// ends counts how calls ended, by their traps.
type ends [api.Fuel + 1]int

// holdSame makes all calls, one after another, by codes of a module, and by the same codes folded: each must end the same, in as many steps, and leave the same. It tells how many steps each took.
func holdSame(t *testing.T, m api.Module, l []vcode.Code, calls []asked, count *ends) []int {
	t.Helper()
	made := foldAll(t, l)
	x, y := machine(t, m, l), machine(t, m, made)
	var used []int
	for _, c := range calls {
		want := must[inst.Outcome](t, "Call")(x.Call(c.f, c.args, c.fuel))
		got := must[inst.Outcome](t, "Call")(y.Call(c.f, c.args, c.fuel))
		if got.Trap != want.Trap || got.Used != want.Used || !slices.Equal(got.Values, want.Values) {
			t.Fatalf("function %d with %v: %v, want %v: %v made %v", c.f, c.args, got, want, l, made)
		}
		if !inst.Same(x.State(), y.State()) {
			t.Fatalf("function %d with %v: the states are not the same: %v made %v", c.f, c.args, l, made)
		}
		count[want.Trap]++
		used = append(used, want.Used)
	}
	return used
}

// holdCut holds each call alone, with all its fuel, and with less than it took.
func holdCut(t *testing.T, m api.Module, l []vcode.Code, calls []asked, count *ends) {
	t.Helper()
	for _, c := range calls {
		used := holdSame(t, m, l, []asked{c}, count)[0]
		var cut []asked
		for _, fuel := range []int{0, 1, used / 3, used / 2, used - 2, used - 1} {
			c.fuel = max(fuel, 0)
			cut = append(cut, c)
		}
		holdSame(t, m, l, cut, count)
	}
}

// wantAll holds that each trap ended so many calls.
func wantAll(t *testing.T, count ends, least int) {
	t.Helper()
	for trap, n := range count {
		if n < least {
			t.Errorf("the trap %d ends only %d calls: %v", trap, n, count)
		}
	}
}

// noteds are blocks of a function that takes an I32 and gives one: of 6 registers all but the first begin with 0.
func noteds() []string {
	const told, less, puts = sample.FuncTold, sample.FuncLess, sample.FuncPuts
	return []string{
		"block 0 depth 0; r1 = const 2; r2 = const 3; r2 = i32.mul r1 r2; r0 = i32.add r0 r2; return r0",
		"block 0 depth 0; r1 = move r0; r2 = move r1; r0 = i32.add r2 r1; r3 = i32.sub r0 r2; r1 = move r3; return r1",
		"block 0 depth 0; r1 = move r0; r0 = move r1; r2 = const 1; r0 = i32.add r0 r2; return r1",
		"block 0 depth 0; r1 = const 6; r0 = select r0 r1 r1; r1 = select r0 r2 r3; r2 = select r1 r0 r0; r3 = select r3 r2 r2; return r3",

		// What traps by what is known traps as it did.
		"block 0 depth 0; r1 = i32.div_u r0 r2; return r1",
		fmt.Sprintf("block 0 depth 0; call %d; r1 = const 8; r2 = i32.rem_s r1 r3; call %d; return r2", told, told),
		"block 0 depth 0; r1 = const -2147483648; r2 = const -1; r3 = i32.rem_s r1 r2; r1 = i32.div_s r1 r2; return r3",
		"block 0 depth 0; r1 = const 1; branch r1 -> 1 2; block 1 depth 0; r2 = i32.div_u r1 r1; r2 = i32.div_u r2 r3; return r2; block 2 depth 0; return r1",

		// Ends by what is known.
		"block 0 depth 0; branch r5 -> 1 2; block 1 depth 0; unreachable; block 2 depth 0; return r0",
		"block 0 depth 0; r1 = const 1; branch r1 -> 1 2; block 1 depth 0; unreachable; block 2 depth 0; return r0",
		"block 0 depth 0; r1 = const 4294967297; table r1 -> 1 2 3; block 1 depth 0; unreachable; block 2 depth 0; return r0; block 3 depth 0; return r1",
		"block 0 depth 0; r1 = const 7; table r1 -> 1 1 3; block 1 depth 0; unreachable; block 2 depth 0; return r0; block 3 depth 0; r1 = move r0; return r1",
		"block 0 depth 0; r1 = const 5; branch r0 -> 1 2; block 1 depth 0; r2 = const 9; jump -> 3; block 2 depth 0; r2 = const 9; r3 = const 1; jump -> 3; block 3 depth 0; r4 = i32.sub r2 r1; branch r3 -> 4 5; block 4 depth 0; return r4; block 5 depth 0; return r1",

		// Loops.
		"block 0 depth 0; r1 = const 1; jump -> 1; block 1 depth 1; branch r0 -> 2 3; block 2 depth 1; r2 = i32.add r2 r1; r0 = i32.sub r0 r1; jump -> 1; block 3 depth 0; return r2",
		"block 0 depth 1; r1 = const 1; r2 = i32.add r2 r1; r3 = i32.lt_u r2 r0; branch r3 -> 0 1; block 1 depth 0; return r2",
		"block 0 depth 1; branch r1 -> 2 1; block 1 depth 1; r1 = move r0; jump -> 0; block 2 depth 0; r1 = i32.add r1 r0; return r1",
		"block 0 depth 0; r1 = const 9; jump -> 1; block 1 depth 1; r2 = move r1; r1 = move r3; r3 = move r2; branch r0 -> 2 3; block 2 depth 1; r4 = const 1; r0 = i32.sub r0 r4; jump -> 1; block 3 depth 0; return r1",
		"block 0 depth 0; jump -> 0",
		fmt.Sprintf("block 0 depth 0; r1 = const 1; branch r1 -> 1 2; block 1 depth 0; call %d; jump -> 0; block 2 depth 0; return r0", told),

		// Calls, the memory, the table and globals.
		fmt.Sprintf("block 0 depth 0; r1 = move r0; r2 = const 3; r3 = move r2; r1 = call r1 r3 %d; call r1 %d; r4 = global.get 0; r5 = move r4; global.set r5 0; call %d; r0 = i32.add r1 r5; return r0", less, puts, told),
		"block 0 depth 0; r1 = const 1; r0 = i32.add r0 r1; r2 = move r0; r0 = call r2 0; return r0",
		"block 0 depth 0; r1 = const 1; branch r0 -> 1 2; block 1 depth 0; r2 = move r0; r2 = i32.sub r2 r1; r2 = call r2 0; r2 = i32.add r2 r1; return r2; block 2 depth 0; return r1",
		"block 0 depth 0; r1 = move r0; i32.store r1 r0 +4050; r2 = i32.load r1 +4050; r3 = move r2; return r3",
		"block 0 depth 0; r1 = move r0; call_indirect r1 0; return r1",
		"block 0 depth 0; r1 = const 1; r2 = move r0; r2 = call_indirect r0 r2 r1 4; return r2",
		"block 0 depth 0; r1 = const 1; r1 = memory.grow r1; r2 = memory.size; r1 = select r1 r2 r2; return r1",
		fmt.Sprintf("block 0 depth 0; return r0; block 1 depth 0; r1 = const 2; r2 = move r1; call %d; branch r1 -> 1 0", told),
	}
}

// bench is package sample's module with a function 0 of a type that has other code.
func bench(t *testing.T, typ uint32, c vcode.Code) (api.Module, []vcode.Code) {
	t.Helper()
	m := sample.Bench(typ, notation.Code("unreachable"))
	l := must[[]vcode.Code](t, "All")(lower.All(m))
	l[0] = c
	return m, l
}

// TestNotedDoTheSame: each noted code, by some arguments, one after another, and each alone.
func TestNotedDoTheSame(t *testing.T) {
	const fuel = 3000
	var count ends
	changed := 0
	for _, text := range noteds() {
		c := notation.Virtual("regs 6 params 1 result; " + text)
		m, l := bench(t, sample.TypeII, c)
		var calls []asked
		for _, arg := range []uint64{0, 1, 2, 3, 4, 5, 6, 7, 8, 42, 43, 62, 63, 64, 100, 1 << 31, 1<<32 - 1} {
			calls = append(calls, asked{0, []uint64{arg}, fuel}, asked{sample.FuncTold, nil, fuel})
		}
		holdSame(t, m, l, calls, &count)
		holdCut(t, m, l, calls, &count)
		if !vcode.Same(c, foldAll(t, []vcode.Code{c})[0]) {
			changed++
		}
	}
	wantAll(t, count, 10)
	if changed < len(noteds())*2/3 {
		t.Errorf("only %d codes were changed", changed)
	}
}

// TestShapedDoTheSame: shaped code, of which much is known, and its registers begin with all sorts of values.
func TestShapedDoTheSame(t *testing.T) {
	k := makerOf(151)
	var count ends
	for _, c := range []struct {
		typ    uint32
		params int
		result bool
	}{{sample.TypeNone, 0, false}, {sample.TypeBigI, 0, true}, {sample.TypeBigII, 1, true}} {
		for range 3000 {
			m, l := bench(t, c.typ, shaped(k, c.params, c.result))
			var calls []asked
			for _, arg := range []uint64{0, 1, 2, 1 << 32, 1<<64 - 1} {
				calls = append(calls, asked{0, []uint64{arg}[:c.params], 200})
			}
			holdSame(t, m, l, calls, &count)
			if k.Intn(10) == 0 {
				holdCut(t, m, l, calls[:1], &count)
			}
		}
	}
	for _, trap := range []api.Trap{api.Well, api.Unreachable, api.Zero, api.Fuel} {
		if count[trap] < 20 {
			t.Errorf("the trap %d ends only %d calls: %v", trap, count[trap], count)
		}
	}
}

// TestMadeDoTheSame: made code, and code of made bodies, by calls one after another.
func TestMadeDoTheSame(t *testing.T) {
	k := makerOf(152)
	var count ends
	for i := range 2000 {
		m := k.Module()
		l := k.Codes(m)
		if i%3 == 0 {
			l = must[[]vcode.Code](t, "All")(lower.All(m))
		}
		var calls []asked
		for range 8 {
			f := k.Intn(len(m.Funcs))
			calls = append(calls, asked{f, k.Args(m, f), 5000})
		}
		holdSame(t, m, l, calls, &count)
		if i%10 == 0 {
			holdCut(t, m, l, calls, &count)
		}
	}
	wantAll(t, count, 50)
}

// TestTwiceFolded: what is folded and folded again does the same, too.
func TestTwiceFolded(t *testing.T) {
	k := makerOf(153)
	var count ends
	for range 300 {
		m := k.Module()
		l := foldAll(t, must[[]vcode.Code](t, "All")(lower.All(m)))
		f := k.Intn(len(m.Funcs))
		holdSame(t, m, l, []asked{{f, k.Args(m, f), 5000}}, &count)
	}
}

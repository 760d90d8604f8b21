package lower_test

import (
	"math/rand"
	"slices"
	"testing"

	"mandrel/api"
	"mandrel/inst"
	"mandrel/lower"
	"mandrel/notation"
	"mandrel/sample"
	"mandrel/spec"
	"mandrel/vrun"
)

// LO2: what such code does, by layer 13, held against layer 10.

// plenty is more fuel than a body here uses up, unless it never ends.
const plenty = 100_000

// machine is one of layer 13, with all code of a module.
func machine(t *testing.T, what string, m api.Module) *vrun.Machine {
	t.Helper()
	l, err := lower.All(m)
	if err != nil {
		t.Fatalf("%s: All: %v", what, err)
	}
	x, trap, err := vrun.New(m, l)
	if err != nil {
		t.Fatalf("%s: New: %d, %v", what, trap, err)
	}
	return x
}

// pair is a module by both machines.
type pair struct {
	what  string
	stack *spec.Machine
	regs  *vrun.Machine
}

func pairOf(t *testing.T, what string, m api.Module) pair {
	t.Helper()
	x, _, err := spec.New(m)
	if err != nil {
		t.Fatalf("%s: %v", what, err)
	}
	return pair{what, x, machine(t, what, m)}
}

// hold calls a function by both, and is how that ended by the stack machine; where that was by the trap Fuel, both may have come to other places.
func (p pair) hold(t *testing.T, f int, args []uint64, fuel int) inst.Outcome {
	t.Helper()
	want, err := p.stack.Call(f, args, fuel)
	if err != nil {
		t.Fatalf("%s, function %d with %v: %v", p.what, f, args, err)
	}
	if want.Trap == api.Fuel {
		return want
	}
	// Just as much fuel as LO2 has steps: where there are more of them, the trap is Fuel.
	got, err := p.regs.Call(f, args, 3*want.Used+3)
	if err != nil || got.Trap != want.Trap || !slices.Equal(got.Values, want.Values) {
		t.Fatalf("%s, function %d with %v: %v, %v, want %v", p.what, f, args, got, err, want)
	}
	if !inst.Same(p.regs.State(), p.stack.State()) {
		t.Fatalf("%s, function %d with %v: the states are not the same", p.what, f, args)
	}
	return want
}

// argsOf are some for a type of bench: few, of which each has its edges.
func argsOf(typ uint32) [][]uint64 {
	var out [][]uint64
	edges := []uint64{0, 1, 2, 3, 4, 5, 6, 7, 100, 1 << 31, 1<<32 - 1}
	switch typ {
	case sample.TypeII, sample.TypeTakesI:
		for _, x := range edges {
			out = append(out, []uint64{x})
		}
	case sample.TypeTwo:
		for _, x := range edges {
			for _, y := range edges {
				out = append(out, []uint64{x, y})
			}
		}
	case sample.TypeMixed:
		out = [][]uint64{{0, 0, 0}, {1, 1<<64 - 1, 0}, {0, 1 << 63, 1}, {7, 1 << 32, 1<<32 - 1}}
	default:
		out = [][]uint64{nil}
	}
	return out
}

// TestDoesTheSame: each of the noted bodies, by all arguments: the second call of a pair begins with what the first one left.
func TestDoesTheSame(t *testing.T) {
	for _, c := range allNoted() {
		for _, args := range argsOf(c.typ) {
			p := pairOf(t, c.name+" ("+c.text+")", bench(c.typ, c.text))
			p.hold(t, 0, args, plenty)
			p.hold(t, 0, args, plenty)
		}
	}
}

// TestByHand: some of these, by what they must give.
func TestByHand(t *testing.T) {
	for _, c := range []struct {
		typ  uint32
		text string
		args []uint64
		want inst.Outcome
	}{
		{sample.TypeII, "local.get 0 local.get 0 i32.add", []uint64{21}, inst.Outcome{Values: []uint64{42}}},
		{sample.TypeI, "i32.const -1", nil, inst.Outcome{Values: []uint64{1<<32 - 1}}},
		{sample.TypeI, "i32.const -2147483648 i32.const -1 i32.div_s", nil, inst.Outcome{Trap: api.Overflow}},
		{sample.TypeII, nested("local.get 0 br_table 0 1 2 1 ;"), []uint64{0}, inst.Outcome{Values: []uint64{1112}}},
		{sample.TypeII, nested("local.get 0 br_table 0 1 2 1 ;"), []uint64{1}, inst.Outcome{Values: []uint64{1012}}},
		{sample.TypeII, nested("local.get 0 br_table 0 1 2 1 ;"), []uint64{2}, inst.Outcome{Values: []uint64{12}}},
		{sample.TypeII, nested("local.get 0 br_table 0 1 2 1 ;"), []uint64{1<<32 - 1}, inst.Outcome{Values: []uint64{1012}}},
		{sample.TypeII, nested("local.get 0 br_if 1 i32.add i32.add"), []uint64{0}, inst.Outcome{Values: []uint64{1133}}},
		{sample.TypeII, "loop ( local.get 1 local.get 0 i32.add local.set 1 " + less + "br_if 0 ) local.get 1", []uint64{100}, inst.Outcome{Values: []uint64{5050}}},
		{sample.TypeMixed, "local.get 0 local.get 1 local.get 2 i32.const 2 call_indirect 5", []uint64{12, 34, 56}, inst.Outcome{Values: []uint64{123456}}},
		{sample.TypeNone, "call 0", nil, inst.Outcome{Trap: api.Depth}},
		{sample.TypeNone, "i32.const 6 call_indirect 0", nil, inst.Outcome{Trap: api.Element}},
		{sample.TypeNone, "i32.const 3 call_indirect 0", nil, inst.Outcome{Trap: api.Mismatch}},
		{sample.TypeNone, "i32.const 4093 i32.const 1 i32.store 0", nil, inst.Outcome{Trap: api.Bounds}},
		{sample.TypeNone, "loop ( br 0 )", nil, inst.Outcome{Trap: api.Fuel}},
		{sample.TypeNone, "loop ( nop i32.const 1 br_if 0 )", nil, inst.Outcome{Trap: api.Fuel}},
		{sample.TypeNone, "loop ( i64.const 1 i32.const 9 br_table 0 0 ; )", nil, inst.Outcome{Trap: api.Fuel}},
		{sample.TypeNone, "loop ( loop ( block ( br 2 ) ) )", nil, inst.Outcome{Trap: api.Fuel}},
	} {
		got, err := machine(t, c.text, bench(c.typ, c.text)).Call(0, c.args, plenty)
		if err != nil || got.Trap != c.want.Trap || !slices.Equal(got.Values, c.want.Values) {
			t.Errorf("%s with %v: %v, %v, want %v", c.text, c.args, got, err, c.want)
		}
	}
}

// TestDepthOfCalls: 64 calls stand in one another, and no more.
func TestDepthOfCalls(t *testing.T) {
	const deep = "local.get 0 if i32 ( local.get 0 i32.const 1 i32.sub call 0 ) else ( i32.const 7 )"
	p := pairOf(t, "deep", bench(sample.TypeII, deep))
	if o := p.hold(t, 0, []uint64{63}, plenty); o.Trap != api.Well {
		t.Errorf("64 calls: %v", o)
	}
	if o := p.hold(t, 0, []uint64{64}, plenty); o.Trap != api.Depth {
		t.Errorf("65 calls: %v", o)
	}
}

// TestSteps: where little is done beside branches, calls and blocks, there are still no more steps than that.
func TestSteps(t *testing.T) {
	for _, text := range []string{
		"", "block ( )", "loop ( )", "i32.const 1 if ( )", "i32.const 0 if ( nop ) else ( )", "call 6", "call 6 call 6 call 6 call 6", "return", "br 0", "i32.const 1 br_if 0",
		"block ( i32.const 1 br_if 0 )", "block ( block ( block ( i32.const 1 br_if 2 ) ) )", "block ( block ( block ( i32.const 0 br_if 2 ) ) )",
		"loop ( global.get 0 i32.const 1 i32.add global.set 0 global.get 0 i32.const 63 i32.and br_if 0 )",
		"loop ( call 1 block i32 ( i32.const 1 global.get 0 global.get 0 br_if 0 drop ) i32.const 63 i32.and br_if 0 )",
		"loop ( call 1 block i32 ( i32.const 1 global.get 0 global.get 0 br_table 0 0 0 ; ) i32.const 63 i32.and br_if 0 )",
		"loop ( block ( call 1 global.get 0 i32.const 3 i32.and br_table 0 1 0 1 2 ; ) global.get 0 i32.const 63 i32.and br_if 0 )",
	} {
		p := pairOf(t, text, bench(sample.TypeNone, text))
		if o := p.hold(t, 0, nil, plenty); o.Trap != api.Well {
			t.Errorf("%s: %v", text, o)
		}
	}
	// A call of a body that goes to its own label by br_if, or falls off its end, takes no more than its share.
	m := bench(sample.TypeNone, "call 8 call 8 call 9 call 9")
	for _, text := range []string{"block ( i32.const 1 br_if 1 )", "block ( i32.const 0 br_if 1 )"} {
		m.Funcs = append(m.Funcs, api.Func{Body: notation.Code(text)})
	}
	pairOf(t, "calls", m).hold(t, 0, nil, plenty)
}

// TestMadeModules: calls of made modules, one after another.
func TestMadeModules(t *testing.T) {
	k := &sample.Maker{Intn: rand.New(rand.NewSource(12)).Intn}
	var ends [api.Fuel + 1]int
	steps := 0
	for range 6000 {
		m := k.Module()
		for f := range m.Funcs {
			codeOf(t, "a made module", m, f)
		}
		p := pairOf(t, "a made module", m)
		for range 8 {
			f := k.Intn(len(m.Funcs))
			args := k.Args(m, f)
			o := p.hold(t, f, args, 3000)
			ends[o.Trap]++
			if o.Trap == api.Fuel {
				// Behind that the states need not be the same.
				break
			}
			steps += o.Used
		}
	}
	for trap, n := range ends {
		if n < 50 {
			t.Errorf("the trap %d ends only %d calls: %v", trap, n, ends)
		}
	}
	if steps < 200_000 {
		t.Errorf("only %d steps", steps)
	}
}

package flow_test

import (
	"fmt"
	"slices"
	"testing"

	"mandrel/api"
	"mandrel/inst"
	"mandrel/lower"
	"mandrel/notation"
	"mandrel/sample"
	"mandrel/vcode"
	"mandrel/vrun"
)

// FL4: what is done by layer 13.

// rows are calls one after another, by their names: what they make does what was handed in.
var rows = [][]string{{"Trim"}, {"Thread"}, {"Join"}, {"Thread", "Join"}, {"Join", "Thread", "Join", "Thread", "Trim"}}

// madeAll are codes, of each of which a row of calls has made another one.
func madeAll(t *testing.T, l []vcode.Code, row []string) []vcode.Code {
	t.Helper()
	out := slices.Clone(l)
	for i := range out {
		for _, maker := range row {
			out[i] = must[vcode.Code](t, maker)(makers[maker](out[i]))
		}
	}
	return out
}

func machine(t *testing.T, m api.Module, l []vcode.Code) *vrun.Machine {
	t.Helper()
	x, trap, err := vrun.New(m, l)
	if err != nil {
		t.Fatalf("New: %d, %v: %v", trap, err, l)
	}
	return x
}

// asked is a call that is asked for.
type asked struct {
	f    int
	args []uint64
}

// holdSame makes all calls, one after another, by two codes of one module: of the second one each must end as of the first one, in no more steps, and leave the same. It counts how the calls end.
func holdSame(t *testing.T, m api.Module, l, made []vcode.Code, calls []asked, ends *[api.Fuel + 1]int) (fewer int) {
	t.Helper()
	const fuel = 10_000
	x, y := machine(t, m, l), machine(t, m, made)
	for _, c := range calls {
		want := must[inst.Outcome](t, "Call")(x.Call(c.f, c.args, fuel))
		ends[want.Trap]++
		if want.Trap == api.Fuel {
			// For one step that is done there may have been a jump through each block: so few of them are no end, either.
			most := 0
			for _, code := range l {
				most = max(most, len(code.Blocks))
			}
			got := must[inst.Outcome](t, "Call")(y.Call(c.f, c.args, fuel/(most+2)))
			if got.Trap != api.Fuel {
				t.Fatalf("function %d with %v: %v, want the trap Fuel: %v made %v", c.f, c.args, got, l, made)
			}
			return fewer
		}
		// Just as much fuel as was used: with more steps the trap is Fuel.
		got := must[inst.Outcome](t, "Call")(y.Call(c.f, c.args, want.Used))
		if got.Trap != want.Trap || !slices.Equal(got.Values, want.Values) {
			t.Fatalf("function %d with %v: %v, want %v: %v made %v", c.f, c.args, got, want, l, made)
		}
		if !inst.Same(x.State(), y.State()) {
			t.Fatalf("function %d with %v: the states are not the same: %v made %v", c.f, c.args, l, made)
		}
		fewer += want.Used - got.Used
	}
	return fewer
}

// bench is package sample's module with a function 0 of a type, and code for all its functions, that of function 0 of noted blocks.
func bench(t *testing.T, typ uint32, text string) (api.Module, []vcode.Code) {
	t.Helper()
	m := sample.Bench(typ, notation.Code("unreachable"))
	l := must[[]vcode.Code](t, "All")(lower.All(m))
	first := fmt.Sprintf("regs 6 params %d", len(m.Types[typ].Params))
	if m.Types[typ].Result != api.None {
		first += " result"
	}
	l[0] = notation.Virtual(first + "; " + text)
	return m, l
}

// TestNotedDoTheSame: each noted code, by some arguments, all calls one after another.
func TestNotedDoTheSame(t *testing.T) {
	const told, less, puts = sample.FuncTold, sample.FuncLess, sample.FuncPuts
	var ends [api.Fuel + 1]int
	for _, c := range []struct {
		name, text string
		fewer      bool // than it takes as it is there are steps of Thread, and then Join
	}{
		{"one block", "block 0 depth 0; r1 = i32.add r0 r0; return r1", false},
		{"jumps alone, on the way to traps and values", `
			block 0 depth 0; table r0 -> 1 2 3 4 5 6 7 8
			block 1 depth 0; jump -> 9
			block 2 depth 0; jump -> 1
			block 3 depth 0; jump -> 10
			block 4 depth 0; jump -> 11
			block 5 depth 0; jump -> 12
			block 6 depth 0; jump -> 13
			block 7 depth 0; jump -> 14
			block 8 depth 0; jump -> 15
			block 9 depth 0; r1 = const 9; return r1
			block 10 depth 0; unreachable
			block 11 depth 0; r0 = i32.div_u r0 r1; return r0
			block 12 depth 0; r1 = const -2147483648; r2 = const -1; r1 = i32.div_s r1 r2; return r1
			block 13 depth 0; r1 = const 4093; i32.store r1 r0 +0; return r0
			block 14 depth 0; r1 = const 6; call_indirect r1 0; return r0
			block 15 depth 0; r0 = call_indirect r1 1; return r0`, true},
		{"the trap Mismatch behind jumps", "block 0 depth 0; jump -> 1; block 1 depth 0; jump -> 2; block 2 depth 0; r1 = const 3; r2 = const 8; i32.store r2 r0 +4; call_indirect r1 0; return r0", true},
		{"a function that calls itself through jumps: the trap Depth", "block 0 depth 0; branch r0 -> 1 2; block 1 depth 0; jump -> 3; block 2 depth 0; jump -> 3; block 3 depth 0; r1 = const 1; r0 = i32.add r0 r1; r0 = call r0 0; return r0", true},
		{"one that calls itself less and less", "block 0 depth 0; branch r0 -> 1 2; block 1 depth 0; jump -> 3; block 2 depth 0; jump -> 4; block 3 depth 0; r1 = const 1; r0 = i32.sub r0 r1; r0 = call r0 0; jump -> 4; block 4 depth 0; r1 = const 7; r0 = i32.add r0 r1; return r0", true},
		{"a loop with jumps within", "block 0 depth 0; r2 = const 1; jump -> 1; block 1 depth 1; jump -> 2; block 2 depth 1; branch r0 -> 4 3; block 3 depth 0; jump -> 6; block 4 depth 1; r1 = i32.add r1 r0; jump -> 5; block 5 depth 1; r0 = i32.sub r0 r2; jump -> 1; block 6 depth 0; return r1", true},
		{"a ring", "block 0 depth 0; branch r0 -> 1 4; block 1 depth 1; jump -> 2; block 2 depth 1; jump -> 3; block 3 depth 1; jump -> 1; block 4 depth 0; return r0", false},
		{"a jump to itself, behind a jump", "block 0 depth 0; branch r0 -> 1 3; block 1 depth 0; jump -> 2; block 2 depth 1; jump -> 2; block 3 depth 0; return r0", false},
		{"block 0 a ring alone", "block 0 depth 0; jump -> 0", false},
		{"block 0 a ring with another one", "block 0 depth 0; jump -> 1; block 1 depth 1; call 6; jump -> 0", false},
		{"block 0 comes again: noughts and arguments don't", "block 0 depth 0; r1 = const 1; r2 = i32.add r2 r1; jump -> 1; block 1 depth 0; r3 = i32.lt_u r2 r0; branch r3 -> 2 3; block 2 depth 0; jump -> 0; block 3 depth 0; return r2", true},
		{"a branch both of whose ways are the same", fmt.Sprintf("block 0 depth 0; branch r0 -> 1 2; block 1 depth 0; jump -> 3; block 2 depth 0; jump -> 3; block 3 depth 0; call %d; branch r1 -> 4 4; block 4 depth 0; r1 = call r0 r0 %d; call r0 %d; r1 = global.get 0; return r1", told, less, puts), true},
		{"blocks that can't be reached", fmt.Sprintf("block 0 depth 0; jump -> 3; block 1 depth 0; call %d; jump -> 3; block 2 depth 0; jump -> 2; block 3 depth 0; branch r0 -> 5 3; block 4 depth 0; unreachable; block 5 depth 0; return r0", told), false},
		{"joined to what changes registers", "block 0 depth 0; r1 = move r0; jump -> 2; block 1 depth 0; r0 = i32.mul r0 r1; return r0; block 2 depth 0; r0 = i32.add r0 r1; jump -> 1", true},
	} {
		m, l := bench(t, sample.TypeII, c.text)
		var calls []asked
		for _, arg := range []uint64{0, 1, 2, 3, 4, 5, 6, 7, 8, 62, 63, 64, 100, 1 << 31, 1<<32 - 1} {
			calls = append(calls, asked{0, []uint64{arg}}, asked{told, nil})
		}
		for _, row := range rows {
			made := madeAll(t, l, row)
			holdSame(t, m, l, made, calls, &ends)
			fewer := 0
			// Each alone: a call that never ends is the last one.
			for _, call := range calls {
				fewer += holdSame(t, m, l, made, []asked{call}, &ends)
			}
			if last := row[len(row)-1] == "Join" && len(row) == 2; last && c.fewer != (fewer > 0) {
				t.Errorf("%s: there are %d steps fewer: %v made %v", c.name, fewer, l[0], made[0])
			}
		}
	}
	for trap, n := range ends {
		if n == 0 {
			t.Errorf("the trap %d ends no call: %v", trap, ends)
		}
	}
}

// ruffled is code that does what other code does, in more blocks and more jumps, and has blocks that no way leads to.
func ruffled(k *sample.Maker, c vcode.Code) vcode.Code {
	c = vcode.Clone(c)
	for range k.Intn(14) {
		i := k.Intn(len(c.Blocks))
		b := &c.Blocks[i]
		fresh := len(c.Blocks)
		depth := k.Intn(65)
		jump := []vcode.Ins{{Op: vcode.Jump, Dst: -1}}
		switch k.Intn(4) {
		case 0: // a block is two
			at := k.Intn(len(b.Ins))
			behind := vcode.Block{Ins: slices.Clone(b.Ins[at:]), Next: b.Next, Depth: depth}
			b.Ins, b.Next = append(b.Ins[:at:at], jump...), []int{fresh}
			c.Blocks = append(c.Blocks, behind)
		case 1: // a way goes through a jump
			if len(b.Next) > 0 {
				j := k.Intn(len(b.Next))
				between := vcode.Block{Ins: jump, Next: []int{b.Next[j]}, Depth: depth}
				b.Next[j] = fresh
				c.Blocks = append(c.Blocks, between)
			}
		case 2: // a jump is a branch, both of whose ways are the same
			if e := endOf(*b); e.Op == vcode.Jump {
				*e = vcode.Ins{Op: vcode.Branch, Dst: -1, Src: []int{k.Intn(c.Regs)}}
				b.Next = []int{b.Next[0], b.Next[0]}
			}
		case 3: // a block that no way leads to leads to one, or to itself
			c.Blocks = append(c.Blocks, vcode.Block{Ins: jump, Next: []int{k.Intn(fresh + 1)}, Depth: depth})
		}
	}
	return c
}

// TestMadeDoTheSame: made code and code of made bodies, ruffled, by calls one after another.
func TestMadeDoTheSame(t *testing.T) {
	k := makerOf(144)
	var ends [api.Fuel + 1]int
	fewer := 0
	for i := range 1500 {
		m := k.Module()
		l := k.Codes(m)
		if i%3 == 0 {
			l = must[[]vcode.Code](t, "All")(lower.All(m))
		}
		plain := l
		if i%4 > 0 {
			l = nil
			for _, c := range plain {
				l = append(l, ruffled(k, c))
			}
		}
		var calls []asked
		for range 8 {
			f := k.Intn(len(m.Funcs))
			calls = append(calls, asked{f, k.Args(m, f)})
		}
		for _, row := range rows {
			fewer += holdSame(t, m, l, madeAll(t, l, row), calls, &ends)
		}
	}
	for trap, n := range ends {
		if n < 50 {
			t.Errorf("the trap %d ends only %d calls: %v", trap, n, ends)
		}
	}
	if fewer < 100_000 {
		t.Errorf("all in all there are only %d steps fewer", fewer)
	}
}

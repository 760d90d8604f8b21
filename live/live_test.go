package live_test

import (
	"math"
	"slices"
	"strconv"
	"testing"

	"mandrel/live"
	"mandrel/notation"
	"mandrel/opcode"
	"mandrel/vcode"
)

// LI1: In, Behind, Most.

// needs are code, with what is needed at the begin of each block, behind each instruction of each block, and at most.
type needs struct {
	name, text string
	in         string
	behind     []string
	most       int
}

// of is code of eight registers, three of them parameters, of the lines of its blocks.
func of(text string) vcode.Code { return notation.Virtual("regs 8 params 3; " + text) }

func hold(t *testing.T, name string, c vcode.Code, in [][]int, behind [][][]int, most int) {
	t.Helper()
	before := told(c)
	wantSets(t, name+": In", must[[]live.Set](t, name)(live.In(c)), in)
	for b, want := range behind {
		wantSets(t, name+": Behind of block "+strconv.Itoa(b), must[[]live.Set](t, name)(live.Behind(c, b)), want)
	}
	if got := must[int](t, name)(live.Most(c)); got != most {
		t.Errorf("%s: Most is %d, want %d", name, got, most)
	}
	if told(c) != before {
		t.Errorf("%s: it was changed", name)
	}
}

func holdAll(t *testing.T, l []needs) {
	t.Helper()
	for _, n := range l {
		c := of(n.text)
		var behind [][][]int
		for _, text := range n.behind {
			behind = append(behind, noted(text))
		}
		if len(behind) != len(c.Blocks) {
			t.Fatalf("%s: %d blocks, %d notes", n.name, len(c.Blocks), len(behind))
		}
		hold(t, n.name, c, noted(n.in), behind, n.most)
	}
}

func TestExample(t *testing.T) {
	c := notation.Virtual("regs 2 params 1 result; block 0 depth 0; r1 = i32.add r0 r0; return r1")
	hold(t, "the example", c, [][]int{{0}}, [][][]int{{{1}, nil}}, 1)
}

func TestOneBlock(t *testing.T) {
	const begin = "block 0 depth 0; "
	holdAll(t, []needs{
		{"nothing", begin + "return", "-", []string{"-"}, 0},
		{"nothing, and a trap", begin + "unreachable", "-", []string{"-"}, 0},
		{"given and not taken", begin + "r1 = const 1; return", "-", []string{"-,-"}, 0},
		{"taken", begin + "global.set r1 0; return", "1", []string{"-,-"}, 1},
		{"taken, then given", begin + "global.set r1 0; r1 = const 1; return", "1", []string{"-,-,-"}, 1},
		{"given, then taken", begin + "r1 = const 1; global.set r1 0; return", "-", []string{"1,-,-"}, 1},
		{"taken and given by one instruction", begin + "r1 = i32.add r1 r2; return", "1 2", []string{"-,-"}, 2},
		{"taken and given by one instruction, and taken yet", begin + "r1 = i32.add r1 r1; global.set r1 0; return", "1", []string{"1,-,-"}, 1},
		{"a move to itself", begin + "r1 = move r1; return", "1", []string{"-,-"}, 1},
		{"given twice", begin + "r1 = const 1; r1 = const 2; global.set r1 0; return", "-", []string{"-,1,-,-"}, 1},
		{"given, taken by what gives it again", begin + "r1 = const 1; r1 = i32.eqz r1; global.set r1 0; return", "-", []string{"1,1,-,-"}, 1},
		{"taken twice by one", begin + "r3 = select r1 r0 r1; return", "0 1", []string{"-,-"}, 2},
		{"taken twice, one after the other", begin + "global.set r1 0; global.set r1 0; global.set r2 0; return", "1 2", []string{"1 2,2,-,-"}, 2},
		{"what gives nothing is taken from all the same", begin + "i32.store r1 r2 +4; call r4 r5 1; call_indirect r6 0; return", "1 2 4 5 6", []string{"4 5 6,6,-,-"}, 5},
		{"calls, loads and such", begin + "r1 = call r2 r2 r3 1; r4 = call_indirect r1 2; r5 = i32.load r4 +1; r6 = memory.grow r5; r7 = memory.size; r0 = global.get 0; i64.store r7 r6 +0; global.set r0 0; return",
			"2 3", []string{"1,4,5,6,6 7,0 6 7,0,-,-"}, 3},
		{"a parameter is needed as any other register is", begin + "r0 = const 1; global.set r0 0; global.set r7 0; return", "7", []string{"0 7,7,-,-"}, 2},
		{"most are needed in the midst", begin + "r0 = const 0; r1 = const 1; r2 = const 2; r3 = const 3; r3 = select r1 r2 r3; r0 = i32.add r3 r0; return", "-", []string{"0,0 1,0 1 2,0 1 2 3,0 3,-,-"}, 4},
		{"most are needed behind the first", begin + "r1 = const 1; i32.store r1 r2 +0; return", "2", []string{"1 2,-,-"}, 2},
		{"what can't be taken any more, as it traps ahead", begin + "r1 = const 1; r2 = i32.div_u r1 r3; unreachable", "3", []string{"1 3,-,-"}, 2},
	})
}

func TestBranches(t *testing.T) {
	holdAll(t, []needs{
		{"over a jump", "block 0 depth 0; jump -> 1; block 1 depth 0; global.set r1 0; return", "1,1", []string{"1", "-,-"}, 1},
		{"given in one block, taken in the next", "block 0 depth 0; r1 = const 1; jump -> 1; block 1 depth 0; global.set r1 0; return", "-,1", []string{"1,1", "-,-"}, 1},
		{"what a branch goes by", "block 0 depth 0; branch r1 -> 1 2; block 1 depth 0; return; block 2 depth 0; return", "1,-,-", []string{"-", "-", "-"}, 1},
		{"what a branch goes by, and needed on the way", "block 0 depth 0; branch r1 -> 1 2; block 1 depth 0; return; block 2 depth 0; global.set r1 0; return", "1,-,1", []string{"1", "-", "-,-"}, 1},
		{"what a table goes by", "block 0 depth 0; r1 = const 2; table r1 -> 2 1 1; block 1 depth 0; global.set r2 0; return; block 2 depth 0; global.set r3 0; return", "2 3,2,3", []string{"1 2 3,2 3", "-,-", "-,-"}, 3},
		{"taken on the last way of a table alone", "block 0 depth 0; table r1 -> 2 2 2 1; block 1 depth 0; global.set r2 0; return; block 2 depth 0; return", "1 2,2,-", []string{"2", "-,-", "-"}, 2},
		{"given on one way, taken on the other", "block 0 depth 0; branch r0 -> 1 2; block 1 depth 0; r1 = const 5; jump -> 3; block 2 depth 0; global.set r1 0; jump -> 3; block 3 depth 0; return", "0 1,-,1,-", []string{"1", "-,-", "-,-", "-"}, 2},
		{"given on one way, taken where both meet", "block 0 depth 0; branch r0 -> 1 2; block 1 depth 0; r1 = const 5; jump -> 3; block 2 depth 0; jump -> 3; block 3 depth 0; global.set r1 0; return", "0 1,-,1,1", []string{"1", "1,1", "1", "-,-"}, 2},
		{"given on both ways, taken where they meet", "block 0 depth 0; branch r0 -> 1 2; block 1 depth 0; r1 = const 5; jump -> 3; block 2 depth 0; r1 = move r0; jump -> 3; block 3 depth 0; global.set r1 0; return", "0,-,0,1", []string{"0", "1,1", "1,1", "-,-"}, 1},
		{"no way goes on", "block 0 depth 0; branch r0 -> 1 2; block 1 depth 0; unreachable; block 2 depth 0; return; block 3 depth 0; global.set r1 0; return", "0,-,-,1", []string{"-", "-", "-", "-,-"}, 1},
		{"each way has its own", "block 0 depth 0; branch r0 -> 1 2; block 1 depth 0; i32.store r1 r2 +0; return; block 2 depth 0; i32.store r2 r3 +0; return", "0 1 2 3,1 2,2 3", []string{"1 2 3", "-,-", "-,-"}, 4},
		{"most at the begin of a block that isn't the first", "block 0 depth 0; r1 = const 1; jump -> 1; block 1 depth 0; r3 = select r1 r2 r0; global.set r3 0; return", "0 2,0 1 2", []string{"0 1 2,0 1 2", "3,-,-"}, 3},
		{"most at the begin of one that no way leads to", "block 0 depth 0; return; block 1 depth 0; i32.store r4 r5 +0; return", "-,4 5", []string{"-", "-,-"}, 2},
	})
}

func TestLoops(t *testing.T) {
	holdAll(t, []needs{
		{"one that takes nothing and never ends", "block 0 depth 0; jump -> 0", "-", []string{"-"}, 0},
		{"one that gives alone", "block 0 depth 0; r1 = const 1; jump -> 0", "-", []string{"-,-"}, 0},
		{"one that takes", "block 0 depth 0; global.set r1 0; jump -> 0", "1", []string{"1,1"}, 1},
		{"taken in the next round", "block 0 depth 0; global.set r1 0; r1 = const 1; jump -> 0", "1", []string{"-,1,1"}, 1},
		{"given ahead of being taken in each round", "block 0 depth 0; r1 = const 1; global.set r1 0; jump -> 0", "-", []string{"1,-,-"}, 1},
		{"one block that counts", "block 0 depth 0; r1 = const 1; jump -> 1; block 1 depth 1; r0 = i32.sub r0 r1; branch r0 -> 1 2; block 2 depth 0; global.set r2 0; return", "0 2,0 1 2,2", []string{"0 1 2,0 1 2", "0 1 2,0 1 2", "-,-"}, 3},
		{"taken at its head in the next round alone", "block 0 depth 0; r3 = const 0; jump -> 1; block 1 depth 1; global.set r3 0; branch r0 -> 2 3; block 2 depth 1; r3 = move r1; jump -> 1; block 3 depth 0; return", "0 1,0 1 3,0 1,-", []string{"0 1 3,0 1 3", "0 1,0 1", "0 1 3,0 1 3", "-"}, 3},
		{"taken behind it", "block 0 depth 0; jump -> 1; block 1 depth 1; branch r0 -> 1 2; block 2 depth 0; global.set r1 0; return", "0 1,0 1,1", []string{"0 1", "0 1", "-,-"}, 2},
		{"given in it, taken behind it", "block 0 depth 0; jump -> 1; block 1 depth 1; r1 = const 1; branch r0 -> 1 2; block 2 depth 0; global.set r1 0; return", "0,0,1", []string{"0", "0 1,0 1", "-,-"}, 2},
		{"a loop about a loop", "block 0 depth 0; jump -> 1; block 1 depth 1; r3 = const 3; jump -> 2; block 2 depth 2; r3 = i32.sub r3 r1; branch r3 -> 2 3; block 3 depth 1; r0 = i32.sub r0 r2; branch r0 -> 1 4; block 4 depth 0; return",
			"0 1 2,0 1 2,0 1 2 3,0 1 2,-", []string{"0 1 2", "0 1 2 3,0 1 2 3", "0 1 2 3,0 1 2 3", "0 1 2,0 1 2", "-"}, 4},
		{"needed within the inner one for the outer one's next round", "block 0 depth 1; global.set r1 0; jump -> 1; block 1 depth 2; branch r2 -> 1 2; block 2 depth 1; branch r3 -> 0 3; block 3 depth 0; return",
			"1 2 3,1 2 3,1 2 3,-", []string{"1 2 3,1 2 3", "1 2 3", "1 2 3", "-"}, 3},
		{"two blocks that lead to one another, entered at both", "block 0 depth 0; branch r0 -> 1 2; block 1 depth 1; global.set r1 0; jump -> 2; block 2 depth 1; r1 = const 1; branch r2 -> 1 3; block 3 depth 0; return",
			"0 1 2,1 2,2,-", []string{"1 2", "2,2", "1 2,1 2", "-"}, 3},
		{"the head has the greatest number", "block 0 depth 0; jump -> 3; block 1 depth 1; r0 = i32.sub r0 r1; jump -> 3; block 2 depth 0; return; block 3 depth 1; branch r0 -> 1 2", "0 1,0 1,-,0 1", []string{"0 1", "0 1,0 1", "-", "0 1"}, 2},
	})
}

// TestUnreached: blocks that can't be reached are looked at, too, and so are ways from them.
func TestUnreached(t *testing.T) {
	holdAll(t, []needs{
		{"one by itself", "block 0 depth 0; return; block 1 depth 0; r1 = i32.add r2 r3; global.set r1 0; return", "-,2 3", []string{"-", "1,-,-"}, 2},
		{"one that leads to others", "block 0 depth 0; jump -> 2; block 1 depth 0; r1 = const 1; jump -> 2; block 2 depth 0; i32.store r1 r2 +0; return", "1 2,2,1 2", []string{"1 2", "1 2,1 2", "-,-"}, 2},
		{"a loop", "block 0 depth 0; global.set r0 0; return; block 1 depth 0; global.set r1 0; jump -> 2; block 2 depth 0; branch r2 -> 1 0", "0,0 1 2,0 1 2", []string{"-,-", "0 1 2,0 1 2", "0 1 2"}, 3},
		{"a way back to block 0", "block 0 depth 0; r1 = const 1; return; block 1 depth 0; jump -> 0; block 2 depth 0; jump -> 1", "-,-,-", []string{"-,-", "-", "-"}, 0},
	})
}

// TestResult: a value that is given back is taken by what returns it.
func TestResult(t *testing.T) {
	c := notation.Virtual("regs 4 params 1 result; block 0 depth 0; branch r1 -> 1 2; block 1 depth 0; return r2; block 2 depth 0; r3 = i32.eqz r3; return r3")
	hold(t, "two that return", c, [][]int{{1, 2, 3}, {2}, {3}}, [][][]int{{{2, 3}}, {nil}, {{3}, nil}}, 3)
}

// TestNoRegisters: of code without registers none is needed, and there is a set for each place all the same.
func TestNoRegisters(t *testing.T) {
	c := notation.Virtual("regs 0 params 0; block 0 depth 0; call 0; jump -> 1; block 1 depth 0; call 1; call 2; jump -> 1")
	hold(t, "no registers", c, [][]int{nil, nil}, [][][]int{{nil, nil}, {nil, nil, nil}}, 0)
}

// TestHighRegisters: those about the borders of a set's numbers.
func TestHighRegisters(t *testing.T) {
	for _, regs := range []int{1, 2, 63, 64, 65, 127, 128, 129, 191, 192, 193, 1023, 1024} {
		for _, r := range []int{0, 31, 32, 62, 63, 64, 65, 126, 127, 128, 129, 1022, 1023} {
			if r >= regs {
				continue
			}
			other := regs - 1 - r
			c := vcode.Code{Regs: regs, Blocks: []vcode.Block{
				{Ins: []vcode.Ins{ins(0x45, other, r), ins(vcode.Branch, -1, other)}, Next: []int{1, 0}},
				{Ins: []vcode.Ins{ins(vcode.Move, other, r), ins(opcode.GlobalSet, -1, other), ins(opcode.Return, -1)}},
			}}
			both := slices.Compact([]int{min(r, other), max(r, other)})
			behind := [][][]int{{both, {r}}, {{other}, nil, nil}}
			hold(t, "register "+strconv.Itoa(r)+" of "+strconv.Itoa(regs), c, [][]int{{r}, {r}}, behind, len(both))
		}
	}
}

// TestAllRegisters: all of 1,024 are needed at once.
func TestAllRegisters(t *testing.T) {
	const regs = 1024
	c := vcode.Code{Regs: regs, Blocks: make([]vcode.Block, 2)}
	var all []int
	var ahead [][]int
	for r := range regs {
		c.Blocks[0].Ins = append(c.Blocks[0].Ins, ins(opcode.GlobalGet, r))
		all = append(all, r)
		ahead = append(ahead, all[:r+1])
	}
	c.Blocks[0].Ins = append(c.Blocks[0].Ins, ins(vcode.Jump, -1))
	c.Blocks[0].Next = []int{1}
	c.Blocks[1].Ins = []vcode.Ins{ins(opcode.Call, -1, all...), ins(opcode.Return, -1)}
	hold(t, "all registers", c, [][]int{nil, all}, [][][]int{append(ahead, all), {nil, nil}}, regs)
}

// refused is code that layer 11 does not take.
func refused() map[string]vcode.Code {
	spoilt := func(change func(c *vcode.Code)) vcode.Code {
		c := of("block 0 depth 0; r1 = i32.add r0 r2; branch r1 -> 1 2; block 1 depth 0; jump -> 0; block 2 depth 0; return")
		change(&c)
		return c
	}
	return map[string]vcode.Code{
		"nothing":            {},
		"no block":           {Regs: 3, Params: 1},
		"a block of nothing": {Blocks: make([]vcode.Block, 1)},
		"4,097 blocks":       spoilt(func(c *vcode.Code) { c.Blocks = slices.Repeat(c.Blocks[2:], 4097) }),
		"16,385 instructions": spoilt(func(c *vcode.Code) {
			c.Blocks[0].Ins = append(slices.Repeat(c.Blocks[0].Ins[:1], 16382), c.Blocks[0].Ins[1])
		}),
		"Params below 0":            spoilt(func(c *vcode.Code) { c.Params = -1 }),
		"Params above Regs":         spoilt(func(c *vcode.Code) { c.Params = 9 }),
		"1,025 registers":           spoilt(func(c *vcode.Code) { c.Regs = 1025 }),
		"registers below 0":         spoilt(func(c *vcode.Code) { c.Regs, c.Params = math.MinInt, math.MinInt }),
		"no end":                    spoilt(func(c *vcode.Code) { c.Blocks[0].Ins = c.Blocks[0].Ins[:1] }),
		"an end too early":          spoilt(func(c *vcode.Code) { c.Blocks[0].Ins[0] = c.Blocks[2].Ins[0] }),
		"a Next behind the last":    spoilt(func(c *vcode.Code) { c.Blocks[0].Next[1] = 3 }),
		"a Next below 0":            spoilt(func(c *vcode.Code) { c.Blocks[0].Next[1] = -1 }),
		"no Next of a jump":         spoilt(func(c *vcode.Code) { c.Blocks[1].Next = nil }),
		"a Next of a return":        spoilt(func(c *vcode.Code) { c.Blocks[2].Next = []int{0} }),
		"a Src that isn't one":      spoilt(func(c *vcode.Code) { c.Blocks[0].Ins[0].Src[1] = 8 }),
		"a Src below 0":             spoilt(func(c *vcode.Code) { c.Blocks[0].Ins[0].Src[1] = -1 }),
		"a Dst that isn't one":      spoilt(func(c *vcode.Code) { c.Blocks[0].Ins[0].Dst = 8 }),
		"a Dst below -1":            spoilt(func(c *vcode.Code) { c.Blocks[0].Ins[0].Dst = -2 }),
		"no Dst":                    spoilt(func(c *vcode.Code) { c.Blocks[0].Ins[0].Dst = -1 }),
		"wrong where no way leads":  spoilt(func(c *vcode.Code) { c.Blocks = append(c.Blocks, vcode.Block{}) }),
		"an unknown instruction":    spoilt(func(c *vcode.Code) { c.Blocks[0].Ins[0].Op = 0xff }),
		"Depth above 64":            spoilt(func(c *vcode.Code) { c.Blocks[2].Depth = 65 }),
		"a value for no Result":     spoilt(func(c *vcode.Code) { c.Blocks[2].Ins[0].Src = []int{0} }),
		"a number that has no use":  spoilt(func(c *vcode.Code) { c.Blocks[0].Ins[0].N = 1 }),
		"an offset that has no use": spoilt(func(c *vcode.Code) { c.Blocks[0].Ins[0].Offset = 1 }),
	}
}

// TestRefused: ErrArg of all three calls; of Behind at all blocks, also where there is none.
func TestRefused(t *testing.T) {
	for what, c := range refused() {
		before := told(c)
		if l, err := live.In(c); number(err) != 1 || len(l) > 0 {
			t.Errorf("%s: In: %v, %v", what, l, err)
		}
		for _, b := range []int{0, 1, 2, 3, 5000, -1, math.MinInt, math.MaxInt} {
			if l, err := live.Behind(c, b); number(err) != 1 || len(l) > 0 {
				t.Errorf("%s: Behind of block %d: %v, %v", what, b, l, err)
			}
		}
		if n, err := live.Most(c); number(err) != 1 || n != 0 {
			t.Errorf("%s: Most: %v, %v", what, n, err)
		}
		if told(c) != before {
			t.Errorf("%s: it was changed", what)
		}
	}
}

// TestNoBlock: ErrRange of Behind, where there is no such block.
func TestNoBlock(t *testing.T) {
	one := of("block 0 depth 0; global.set r1 0; return")
	three := of("block 0 depth 0; jump -> 1; block 1 depth 0; jump -> 2; block 2 depth 0; return")
	for _, c := range []struct {
		code   vcode.Code
		blocks []int
	}{
		{one, []int{-1, 1, 2, 64, 4096, math.MaxInt, math.MinInt}},
		{three, []int{-1, -3, 3, 4, math.MaxInt, math.MinInt}},
	} {
		for _, b := range c.blocks {
			if l, err := live.Behind(c.code, b); number(err) != 5 || len(l) > 0 {
				t.Errorf("block %d of %d: %v, %v", b, len(c.code.Blocks), l, err)
			}
		}
		for b := range c.code.Blocks {
			if l, err := live.Behind(c.code, b); err != nil || len(l) != len(c.code.Blocks[b].Ins) {
				t.Errorf("block %d of %d: %v, %v", b, len(c.code.Blocks), l, err)
			}
		}
	}
}

package fold_test

import (
	"fmt"
	"maps"
	"slices"
	"strings"
	"testing"

	"mandrel/api"
	"mandrel/fold"
	"mandrel/notation"
	"mandrel/num"
	"mandrel/opcode"
	"mandrel/shape"
	"mandrel/vcode"
)

// FO1; and what neither call takes.

func TestRefused(t *testing.T) {
	good := notation.Virtual("regs 2 params 1; block 0 depth 0; r1 = move r0; branch r1 -> 0 1; block 1 depth 0; return")
	spoilt := func(change func(c *vcode.Code)) vcode.Code {
		c := vcode.Clone(good)
		change(&c)
		return c
	}
	for what, c := range map[string]vcode.Code{
		"nothing":                   {},
		"no block":                  {Regs: 3, Params: 1},
		"a block of nothing":        {Blocks: make([]vcode.Block, 1)},
		"4,097 blocks":              {Blocks: slices.Repeat(good.Blocks[1:], 4097)},
		"16,385 instructions":       spoilt(func(c *vcode.Code) { c.Blocks[0].Ins = slices.Repeat(c.Blocks[0].Ins[:1], 16385) }),
		"Params below 0":            spoilt(func(c *vcode.Code) { c.Params = -1 }),
		"Params above Regs":         spoilt(func(c *vcode.Code) { c.Params = 3 }),
		"1,025 registers":           spoilt(func(c *vcode.Code) { c.Regs = 1025 }),
		"no end":                    spoilt(func(c *vcode.Code) { c.Blocks[0].Ins = c.Blocks[0].Ins[:1] }),
		"an end too early":          spoilt(func(c *vcode.Code) { c.Blocks[0].Ins[0] = c.Blocks[1].Ins[0] }),
		"a Next behind the last":    spoilt(func(c *vcode.Code) { c.Blocks[0].Next[1] = 2 }),
		"a Next below 0":            spoilt(func(c *vcode.Code) { c.Blocks[0].Next[0] = -1 }),
		"one Next of a branch":      spoilt(func(c *vcode.Code) { c.Blocks[0].Next = []int{1} }),
		"a register that isn't one": spoilt(func(c *vcode.Code) { c.Blocks[0].Ins[0].Src[0] = 2 }),
		"a Dst that isn't one":      spoilt(func(c *vcode.Code) { c.Blocks[0].Ins[0].Dst = 2 }),
		"Depth above 64":            spoilt(func(c *vcode.Code) { c.Blocks[1].Depth = 65 }),
		"a value for no Result":     spoilt(func(c *vcode.Code) { c.Blocks[1].Ins[0].Src = []int{0} }),
		"wrong where no way leads":  spoilt(func(c *vcode.Code) { c.Blocks = append(c.Blocks, vcode.Block{}) }),
	} {
		before := told(c)
		if known, err := fold.Known(c); len(known) > 0 || number(err) != api.ErrArg {
			t.Errorf("%s: Known: %v, %v, want ErrArg alone", what, known, err)
		}
		if made, err := fold.Fold(c); !vcode.Same(made, vcode.Code{}) || number(err) != api.ErrArg {
			t.Errorf("%s: Fold: %v, %v, want ErrArg alone", what, made, err)
		}
		if told(c) != before {
			t.Errorf("%s: it was changed", what)
		}
	}
	must[[]map[int]uint64](t, "good")(fold.Known(good))
}

func TestKnownFirst(t *testing.T) {
	holdKnown(t, [][]string{
		{"no register", "regs 0 params 0; block 0 depth 0; return", ""},
		{"no parameter", "regs 3 params 0; block 0 depth 0; return", "r0 0 r1 0 r2 0"},
		{"one", "regs 3 params 1; block 0 depth 0; return", "r1 0 r2 0"},
		{"all but one", "regs 3 params 2; block 0 depth 0; return", "r2 0"},
		{"parameters alone", "regs 3 params 3; block 0 depth 0; return", ""},
		{"whatever comes then", "regs 3 params 1; block 0 depth 0; r1 = const 7; r0 = const 8; return", "r1 0 r2 0"},
	})
}

// TestKnownFirstOfLoop: block 0 as the head of a loop. What comes back there comes beside what code begins with.
func TestKnownFirstOfLoop(t *testing.T) {
	holdKnown(t, [][]string{
		{"nothing is given", "regs 3 params 1; block 0 depth 0; branch r0 -> 0 1; block 1 depth 0; return", "r1 0 r2 0", "r1 0 r2 0"},
		{"one is given a const", "regs 3 params 1; block 0 depth 0; r1 = const 7; branch r0 -> 0 1; block 1 depth 0; return", "r2 0", "r1 7 r2 0"},
		{"one is given the same", "regs 3 params 1; block 0 depth 0; r1 = const 0; branch r0 -> 0 1; block 1 depth 0; return", "r1 0 r2 0", "r1 0 r2 0"},
		{"one is given by a parameter", "regs 3 params 1; block 0 depth 0; r2 = move r0; branch r0 -> 0 1; block 1 depth 0; return", "r1 0", "r1 0"},
		{"one is counted", "regs 3 params 1; block 0 depth 0; r1 = i64.add r1 r0; branch r1 -> 0 1; block 1 depth 0; return", "r2 0", "r2 0"},
		{"a parameter is given a const", "regs 3 params 1; block 0 depth 0; r0 = const 0; branch r0 -> 0 1; block 1 depth 0; return", "r1 0 r2 0", "r0 0 r1 0 r2 0"},
		{"by way of another block", "regs 3 params 1; block 0 depth 0; branch r0 -> 1 2; block 1 depth 0; r2 = const 9; jump -> 0; block 2 depth 0; return", "r1 0", "r1 0", "r1 0"},
		{"on a way that is never gone", "regs 3 params 1; block 0 depth 0; r2 = const 1; branch r2 -> 1 0; block 1 depth 0; return", "r1 0", "r1 0 r2 1"},
		{"on a way from what can't be reached", "regs 3 params 1; block 0 depth 0; return; block 1 depth 0; r1 = const 5; jump -> 0", "r1 0 r2 0", ""},
		{"for ever", "regs 2 params 0; block 0 depth 0; r1 = const 1; jump -> 0", "r0 0"},
	})
}

// behind is what is known behind some instructions, in code of eight registers, two of them parameters.
func behind(t *testing.T, text string) map[int]uint64 {
	t.Helper()
	c := notation.Virtual("regs 8 params 2; block 0 depth 0; " + text + "; jump -> 1; block 1 depth 0; return")
	return must[[]map[int]uint64](t, text)(fold.Known(c))[1]
}

// TestKnownBehind: behind instructions of each kind; r2 is 5 ahead of them, r3 is 7, r4 is -1, and r5 to r7 are 0.
func TestKnownBehind(t *testing.T) {
	const ahead = "r2 = const 5; r3 = const 7; r4 = const -1; "
	all := noted("r2 5 r3 7 r4 18446744073709551615 r5 0 r6 0 r7 0")
	for _, c := range []struct{ ins, changed, lost string }{
		{"r6 = const 11", "r6 11", ""},
		{"r6 = const 0", "", ""},
		{"r6 = const -9223372036854775808", "r6 9223372036854775808", ""},
		{"r0 = const 3", "r0 3", ""},
		{"r2 = const 6", "r2 6", ""},

		{"r6 = move r2", "r6 5", ""},
		{"r6 = move r4", "r6 18446744073709551615", ""},
		{"r1 = move r5", "r1 0", ""},
		{"r2 = move r0", "", "2"},
		{"r2 = move r2", "", ""},
		{"r0 = move r0", "", ""},
		{"r6 = move r2; r2 = const 9", "r6 5 r2 9", ""},

		{"r6 = i64.add r2 r3", "r6 12", ""},
		{"r2 = i64.add r2 r2", "r2 10", ""},
		{"r6 = i64.sub r2 r3", "r6 18446744073709551614", ""},
		{"r6 = i32.sub r2 r3", "r6 4294967294", ""},
		{"r6 = i32.add r4 r5", "r6 4294967295", ""},
		{"r6 = i32.eqz r5", "r6 1", ""},
		{"r6 = i64.extend_i32_s r4", "r6 18446744073709551615", ""},
		{"r6 = i64.extend_i32_u r4", "r6 4294967295", ""},
		{"r6 = i32.wrap_i64 r4", "r6 4294967295", ""},
		{"r6 = i64.add r2 r0", "", "6"},
		{"r6 = i64.add r0 r2", "", "6"},
		{"r6 = i64.mul r0 r5", "", "6"},
		{"r6 = i64.xor r0 r0", "", "6"},
		{"r6 = i32.eqz r0", "", "6"},
		{"r2 = i64.clz r1", "", "2"},

		{"r6 = i64.div_u r3 r2", "r6 1", ""},
		{"r6 = i64.rem_s r3 r2", "r6 2", ""},
		{"r6 = i64.div_u r3 r5", "", "6"},
		{"r6 = i32.rem_s r3 r5", "", "6"},
		{"r6 = const 4294967296; r6 = i32.div_u r3 r6", "", "6"},
		{"r6 = const -2147483648; r6 = i32.div_s r6 r4", "", "6"},
		{"r6 = const -2147483648; r6 = i32.rem_s r6 r4", "r6 0", ""},
		{"r6 = const -9223372036854775808; r6 = i64.div_s r6 r4", "", "6"},
		{"r6 = const -2147483648; r6 = i64.div_s r6 r4", "r6 2147483648", ""},
		{"r6 = i64.div_u r5 r0", "", "6"},

		{"r6 = select r2 r3 r4", "r6 5", ""},
		{"r6 = select r2 r3 r5", "r6 7", ""},
		{"r7 = const 4294967296; r6 = select r2 r3 r7", "r6 5 r7 4294967296", ""},
		{"r6 = select r2 r0 r4", "r6 5", ""},
		{"r6 = select r0 r3 r5", "r6 7", ""},
		{"r6 = select r0 r3 r4", "", "6"},
		{"r6 = select r2 r0 r5", "", "6"},
		{"r6 = select r2 r3 r0", "", "6"},
		{"r6 = select r2 r2 r0", "", "6"},
		{"r5 = select r2 r3 r5", "r5 7", ""},

		{"r6 = i32.load r2 +0", "", "6"},
		{"r2 = i64.load32_u r2 +8", "", "2"},
		{"i32.store r2 r3 +0", "", ""},
		{"i64.store8 r0 r1 +5", "", ""},
		{"r6 = memory.size", "", "6"},
		{"r6 = memory.grow r5", "", "6"},
		{"r6 = global.get 0", "", "6"},
		{"global.set r2 0", "", ""},
		{"r6 = call 1", "", "6"},
		{"r6 = call r2 1", "", "6"},
		{"r6 = call r2 r3 1", "", "6"},
		{"r6 = call r2 r3 r4 1", "", "6"},
		{"call r2 r3 1", "", ""},
		{"r6 = call_indirect r2 1", "", "6"},
		{"r6 = call_indirect r2 r3 1", "", "6"},
		{"r6 = call_indirect r2 r3 r4 1", "", "6"},
		{"call_indirect r2 1", "", ""},
		{"r6 = call 1; r6 = const 2; r7 = i64.add r6 r2", "r6 2 r7 7", ""},
	} {
		want := maps.Clone(all)
		maps.Copy(want, noted(c.changed))
		maps.DeleteFunc(want, func(r int, _ uint64) bool { return c.lost == fmt.Sprint(r) })
		if got := behind(t, ahead+c.ins); !maps.Equal(got, want) {
			t.Errorf("%s: %v is known, want %v", c.ins, got, want)
		}
	}
}

// TestKnownReckoned: behind all instructions that give, with each number, by registers that are known: layer 2's give what that says, and nothing where they trap; all others nothing.
func TestKnownReckoned(t *testing.T) {
	values := []uint64{0, 1, 2, 7, 31, 33, 1<<31 - 1, 1 << 31, 1<<32 - 1, 1 << 32, 1<<32 + 1, 1 << 63, 1<<64 - 1}
	reckoned, trapped := map[byte]bool{}, 0
	for op := range 256 {
		for takes := range 3 {
			in := vcode.Ins{Op: byte(op), Dst: 3, Src: []int{1, 2}[:takes]}
			if !shape.May(shape.Ins(in), false) || in.Op == opcode.Const64 || in.Op == vcode.Move {
				continue
			}
			for _, x := range values {
				for _, y := range values {
					c := vcode.Code{Regs: 4, Blocks: []vcode.Block{
						{Ins: []vcode.Ins{{Op: opcode.Const64, Dst: 1, N: int64(x)}, {Op: opcode.Const64, Dst: 2, N: int64(y)}, in, {Op: vcode.Jump, Dst: -1}}, Next: []int{1}},
						{Ins: []vcode.Ins{{Op: opcode.Return, Dst: -1}}},
					}}
					want := map[int]uint64{0: 0, 1: x, 2: y}
					v1, err1 := num.One(in.Op, x)
					v2, trap, err2 := num.Two(in.Op, x, y)
					switch {
					case takes == 1 && err1 == nil:
						reckoned[in.Op] = true
						want[3] = v1
					case takes == 2 && err2 == nil && trap == api.Well:
						reckoned[in.Op] = true
						want[3] = v2
					case takes == 2 && err2 == nil:
						trapped++
					}
					wantKnown(t, shape.Name(in.Op), c, []map[int]uint64{noted("r0 0 r1 0 r2 0 r3 0"), want})
				}
			}
		}
	}
	// 22 that test and compare, 36 that reckon, and three that go from one kind to the other.
	if len(reckoned) != 61 || trapped == 0 {
		t.Errorf("%d instructions reckon, %d times there is a trap", len(reckoned), trapped)
	}
}

func TestKnownWhereWaysMeet(t *testing.T) {
	// Two ways meet, on each of which some registers are given.
	meet := func(first, second string) string {
		return "regs 4 params 1; block 0 depth 0; branch r0 -> 1 2; block 1 depth 0; " + first + "jump -> 3; block 2 depth 0; " + second + "jump -> 3; block 3 depth 0; return"
	}
	const begin = "r1 0 r2 0 r3 0"
	holdKnown(t, [][]string{
		{"nothing", meet("", ""), begin, begin, begin, begin},
		{"the same", meet("r1 = const 5; ", "r1 = const 5; "), begin, begin, begin, "r1 5 r2 0 r3 0"},
		{"not the same", meet("r1 = const 5; ", "r1 = const 6; "), begin, begin, begin, "r2 0 r3 0"},
		{"the same, but for its upper bits", meet("r1 = const 5; ", "r1 = const 4294967301; "), begin, begin, begin, "r2 0 r3 0"},
		{"on one way alone", meet("r1 = const 5; ", ""), begin, begin, begin, "r2 0 r3 0"},
		{"on the other way alone", meet("", "r1 = const 5; "), begin, begin, begin, "r2 0 r3 0"},
		{"on one way what it was", meet("r1 = const 0; ", ""), begin, begin, begin, begin},
		{"the same by other means", meet("r1 = const 5; ", "r1 = const 2; r2 = const 3; r1 = i64.add r1 r2; r2 = const 0; "), begin, begin, begin, "r1 5 r2 0 r3 0"},
		{"known on one way", meet("r1 = const 5; ", "r1 = move r0; "), begin, begin, begin, "r2 0 r3 0"},
		{"not known, and the same", meet("r1 = move r0; ", "r1 = move r0; "), begin, begin, begin, "r2 0 r3 0"},
		{"a parameter", meet("r0 = const 3; ", "r0 = const 3; "), begin, begin, begin, "r0 3 r1 0 r2 0 r3 0"},
		{"a parameter on one way", meet("r0 = const 3; ", ""), begin, begin, begin, begin},
		{"several", meet("r1 = const 5; r2 = const 6; r3 = const 7; ", "r3 = const 7; r2 = const 5; r1 = const 5; "), begin, begin, begin, "r1 5 r3 7"},

		{"one ahead can't be reached", "regs 3 params 1; block 0 depth 0; r1 = const 5; jump -> 2; block 1 depth 0; r1 = const 6; jump -> 2; block 2 depth 0; return", "r1 0 r2 0", "", "r1 5 r2 0"},
		{"two of three can't be reached", "regs 3 params 1; block 0 depth 0; r1 = const 5; jump -> 3; block 1 depth 0; branch r0 -> 2 3; block 2 depth 0; r2 = global.get 0; jump -> 3; block 3 depth 0; return", "r1 0 r2 0", "", "", "r1 5 r2 0"},
		{"none can be reached", "regs 3 params 1; block 0 depth 0; return; block 1 depth 0; r1 = const 6; jump -> 2; block 2 depth 0; jump -> 1", "r1 0 r2 0", "", ""},
		{"a branch both of whose ways are the same", "regs 2 params 1; block 0 depth 0; r1 = const 4; branch r0 -> 1 1; block 1 depth 0; return", "r1 0", "r1 4"},
		{"a table", "regs 3 params 1; block 0 depth 0; r1 = const 4; table r0 -> 1 2 3 2 3; block 1 depth 0; r2 = const 1; jump -> 3; block 2 depth 0; r1 = const 3; jump -> 3; block 3 depth 0; return", "r1 0 r2 0", "r1 4 r2 0", "r1 4 r2 0", ""},
		{"a way back is not yet known when it is come to", "regs 3 params 1; block 0 depth 0; jump -> 2; block 1 depth 0; r1 = const 2; branch r0 -> 2 3; block 2 depth 0; r2 = move r1; jump -> 1; block 3 depth 0; return", "r1 0 r2 0", "", "", "r1 2"},
	})
}

// TestKnownBranch: all its Next count, though its register is known.
func TestKnownBranch(t *testing.T) {
	ends := func(value int, end string) string {
		return fmt.Sprintf("regs 3 params 1; block 0 depth 0; r1 = const %d; %s; block 1 depth 0; r2 = const 7; jump -> 3; block 2 depth 0; r2 = const 8; jump -> 3; block 3 depth 0; return", value, end)
	}
	for _, value := range []int{0, 1, 2, 9} {
		known := fmt.Sprintf("r1 %d", value)
		for _, end := range []string{"branch r1 -> 1 2", "branch r1 -> 2 1", "table r1 -> 1 2", "table r1 -> 2 2 1"} {
			holdKnown(t, [][]string{{end, ends(value, end), "r1 0 r2 0", known + " r2 0", known + " r2 0", known}})
		}
	}
	holdKnown(t, [][]string{
		{"to where nothing else leads", "regs 2 params 0; block 0 depth 0; branch r0 -> 1 2; block 1 depth 0; r1 = const 3; jump -> 2; block 2 depth 0; return", "r0 0 r1 0", "r0 0 r1 0", "r0 0"},
	})
}

func TestKnownLoop(t *testing.T) {
	// A loop of block 1, ahead of which r1 is 5, r2 is 6, and r3 is 7.
	loop := func(text string) string {
		return "regs 4 params 1; block 0 depth 0; r1 = const 5; r2 = const 6; r3 = const 7; jump -> 1; block 1 depth 1; " + text + "branch r0 -> 1 2; block 2 depth 0; return"
	}
	const begin, all = "r1 0 r2 0 r3 0", "r1 5 r2 6 r3 7"
	holdKnown(t, [][]string{
		{"leaves all", loop(""), begin, all, all},
		{"changes one", loop("r1 = const 8; "), begin, "r2 6 r3 7", "r1 8 r2 6 r3 7"},
		{"gives one the same", loop("r1 = const 5; "), begin, all, all},
		{"counts one", loop("r1 = i64.add r1 r2; "), begin, "r2 6 r3 7", "r2 6 r3 7"},
		{"gives one to itself", loop("r1 = move r1; "), begin, all, all},
		{"reckons what stays the same", loop("r0 = i64.sub r2 r1; r1 = i64.sub r2 r0; "), begin, all, "r0 1 " + all},
		{"two that change places", loop("r0 = move r1; r1 = move r2; r2 = move r0; "), begin, "r3 7", "r3 7"},
		{"one that takes from one that changes", loop("r2 = move r1; r1 = global.get 0; "), begin, "r3 7", "r3 7"},
		{"one after another", loop("r3 = move r2; r2 = move r1; r1 = move r0; "), begin, "", ""},
		{"what is lost later makes others lost", loop("r3 = i64.mul r2 r2; r3 = const 7; r2 = i32.eqz r1; r2 = const 6; r1 = const 4; "), begin, "r2 6 r3 7", "r1 4 r2 6 r3 7"},
		{"a select by what stays", loop("r1 = select r1 r0 r2; "), begin, all, all},
		{"a select by what changes", loop("r3 = select r1 r1 r2; r2 = const 0; "), begin, "r1 5", "r1 5 r2 0"},

		{"two loops in one another", "regs 4 params 1; block 0 depth 0; r1 = const 5; r2 = const 6; jump -> 1; block 1 depth 1; jump -> 2; block 2 depth 2; r3 = i64.add r1 r2; branch r0 -> 2 3; block 3 depth 1; r2 = const 9; branch r0 -> 1 4; block 4 depth 0; return", begin, "r1 5", "r1 5", "r1 5", "r1 5 r2 9"},
		{"both ways around hold one another up", "regs 3 params 1; block 0 depth 0; r1 = const 5; r2 = const 5; jump -> 1; block 1 depth 1; r1 = move r2; branch r0 -> 2 3; block 2 depth 1; r2 = move r1; branch r0 -> 1 3; block 3 depth 0; return", "r1 0 r2 0", "r1 5 r2 5", "r1 5 r2 5", "r1 5 r2 5"},
		{"a loop with two begins", "regs 3 params 1; block 0 depth 0; r1 = const 5; branch r0 -> 1 2; block 1 depth 1; r2 = const 1; jump -> 2; block 2 depth 1; branch r0 -> 1 3; block 3 depth 0; return", "r1 0 r2 0", "r1 5", "r1 5", "r1 5"},
	})
}

// TestKnownChain: through a loop that hands each register on to the next one, one is lost after the other, however many there are.
func TestKnownChain(t *testing.T) {
	const many = 60
	var b strings.Builder
	for r := many - 1; r > 0; r-- {
		fmt.Fprintf(&b, "r%d = move r%d; ", r, r-1)
	}
	loop := func(last string) vcode.Code {
		return notation.Virtual(fmt.Sprintf("regs %d params 0; block 0 depth 0; jump -> 1; block 1 depth 1; %s%s branch r0 -> 1 2; block 2 depth 0; return", many, b.String(), last))
	}
	all, none := map[int]uint64{}, map[int]uint64{}
	for r := range many {
		all[r] = 0
	}
	wantKnown(t, "nothing comes in", loop(""), []map[int]uint64{all, all, all})
	wantKnown(t, "a nought comes in", loop("r0 = const 0;"), []map[int]uint64{all, all, all})
	wantKnown(t, "something comes in", loop("r0 = global.get 0;"), []map[int]uint64{all, none, none})
	wantKnown(t, "a one comes in", loop("r0 = const 1;"), []map[int]uint64{all, none, {0: 1}})
}

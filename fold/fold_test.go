package fold_test

import (
	"fmt"
	"math"
	"testing"

	"mandrel/fold"
	"mandrel/notation"
	"mandrel/opcode"
	"mandrel/vcode"
)

// FO2.

// of is code of eight registers, two of them parameters, of the lines of its blocks.
func of(text string) vcode.Code { return notation.Virtual("regs 8 params 2; " + text) }

// before is code ahead of Fold, and behind it.
type before struct{ name, text, want string }

// holdFold holds codes; a text without a block is that of one.
func holdFold(t *testing.T, l []before) {
	t.Helper()
	for _, c := range l {
		wantFold(t, c.name, of(c.text), of(c.want))
	}
}

// holdBlock holds codes of one block, which returns.
func holdBlock(t *testing.T, l []before) {
	t.Helper()
	for i := range l {
		c := &l[i]
		c.text = "block 0 depth 0; " + c.text + "; return"
		c.want = "block 0 depth 0; " + c.want + "; return"
	}
	holdFold(t, l)
}

func TestFoldExample(t *testing.T) {
	holdBlock(t, []before{
		{"the example", "r0 = const 2; r1 = const 3; r2 = i64.add r0 r1", "r0 = const 2; r1 = const 3; r2 = const 5"},
	})
}

// TestFoldGives: r2 is 5, r3 is 7, and r4 to r7 are 0.
func TestFoldGives(t *testing.T) {
	const ahead = "r2 = const 5; r3 = const 7; "
	l := []before{
		{"const", "r6 = const 11", "r6 = const 11"},
		{"move of what is known", "r6 = move r2", "r6 = const 5"},
		{"move of what is known from the begin on", "r2 = move r7", "r2 = const 0"},
		{"move of what is not", "r6 = move r0", "r6 = move r0"},
		{"move of a register that is known to itself", "r2 = move r2", "r2 = const 5"},
		{"move of one that is not to itself", "r0 = move r0", "r0 = move r0"},
		{"of two operands", "r6 = i64.mul r2 r3", "r6 = const 35"},
		{"of one operand", "r6 = i32.popcnt r3", "r6 = const 3"},
		{"below 0", "r6 = i64.sub r2 r3", "r6 = const -2"},
		{"I32 is not below 0", "r6 = i32.sub r2 r3", "r6 = const 4294967294"},
		{"the greatest", "r6 = const -1; r7 = i64.shr_u r6 r5; r6 = i64.rotl r6 r2", "r6 = const -1; r7 = const -1; r6 = const -1"},
		{"one operand is not known", "r6 = i64.mul r0 r5; r6 = i64.mul r5 r0; r6 = i64.clz r1", "r6 = i64.mul r0 r5; r6 = i64.mul r5 r0; r6 = i64.clz r1"},
		{"a quotient", "r6 = i32.div_s r3 r2; r6 = i64.rem_u r3 r2", "r6 = const 1; r6 = const 2"},
		{"divided by 0", "r6 = i32.div_u r3 r5; r7 = move r6", "r6 = i32.div_u r3 r5; r7 = move r6"},
		{"what is left of a division by 0", "r6 = i64.rem_s r3 r5; r7 = i64.eqz r6", "r6 = i64.rem_s r3 r5; r7 = i64.eqz r6"},
		{"a quotient that is too great", "r6 = const -1; r7 = const -9223372036854775808; r7 = i64.div_s r7 r6; r7 = i64.eqz r7", "r6 = const -1; r7 = const -9223372036854775808; r7 = i64.div_s r7 r6; r7 = i64.eqz r7"},
		{"select of the first", "r6 = select r2 r3 r2", "r6 = const 5"},
		{"select of the second", "r6 = select r2 r3 r5", "r6 = const 7"},
		{"select of one that is not known", "r6 = select r0 r3 r2; r6 = select r2 r0 r5", "r6 = select r0 r3 r2; r6 = select r2 r0 r5"},
		{"select beside one that is not known", "r6 = select r2 r0 r2; r6 = select r0 r3 r5", "r6 = const 5; r6 = const 7"},
		{"select by what is not known", "r6 = select r2 r2 r0", "r6 = select r2 r2 r0"},
		{"one after another", "r6 = i64.add r2 r3; r6 = i64.mul r6 r6; r7 = i64.eq r6 r2; r6 = select r6 r2 r7", "r6 = const 12; r6 = const 144; r7 = const 0; r6 = const 5"},
		{"given to what it takes", "r2 = i64.add r2 r2; r2 = i64.add r2 r2; r2 = i64.add r2 r0; r2 = i64.add r2 r2", "r2 = const 10; r2 = const 20; r2 = i64.add r2 r0; r2 = i64.add r2 r2"},
		{"no other instructions", "r6 = i32.load r2 +3; i64.store r2 r3 +4; r6 = memory.size; r6 = memory.grow r2; r6 = global.get 1; global.set r2 2; r6 = call r2 r3 4; call r2 5; r6 = call_indirect r2 r3 6; call_indirect r3 7",
			"r6 = i32.load r2 +3; i64.store r2 r3 +4; r6 = memory.size; r6 = memory.grow r2; r6 = global.get 1; global.set r2 2; r6 = call r2 r3 4; call r2 5; r6 = call_indirect r2 r3 6; call_indirect r3 7"},
		{"behind them nothing is known of what they give", "r2 = call 1; r6 = move r2; r2 = i64.add r2 r3; call r2 2; r6 = move r3", "r2 = call 1; r6 = move r2; r2 = i64.add r2 r3; call r2 2; r6 = const 7"},
	}
	for i := range l {
		l[i].text, l[i].want = ahead+l[i].text, ahead+l[i].want
	}
	holdBlock(t, l)
}

// TestFoldOfBegins: what is known at a block's begin is used within it.
func TestFoldOfBegins(t *testing.T) {
	holdFold(t, []before{
		{"by one way", "block 0 depth 0; r2 = const 5; jump -> 1; block 1 depth 0; r3 = i64.add r2 r2; return", "block 0 depth 0; r2 = const 5; jump -> 1; block 1 depth 0; r3 = const 10; return"},
		{"by two ways that say the same", `
			block 0 depth 0; branch r0 -> 1 2
			block 1 depth 1; r2 = const 5; r3 = const 1; jump -> 3
			block 2 depth 2; r2 = const 5; r3 = const 2; jump -> 3
			block 3 depth 3; r4 = move r2; r5 = move r3; return`, `
			block 0 depth 0; branch r0 -> 1 2
			block 1 depth 1; r2 = const 5; r3 = const 1; jump -> 3
			block 2 depth 2; r2 = const 5; r3 = const 2; jump -> 3
			block 3 depth 3; r4 = const 5; r5 = move r3; return`},
		{"a loop that counts", `
			block 0 depth 0; r2 = const 10; r3 = const 1; jump -> 1
			block 1 depth 1; r4 = i64.add r3 r3; r2 = i64.sub r2 r3; branch r2 -> 1 2
			block 2 depth 0; return`, `
			block 0 depth 0; r2 = const 10; r3 = const 1; jump -> 1
			block 1 depth 1; r4 = const 2; r2 = i64.sub r2 r3; branch r2 -> 1 2
			block 2 depth 0; return`},
		{"block 0 as the head of a loop that counts", `
			block 0 depth 1; r4 = const 1; r2 = i64.add r2 r4; r3 = i64.add r3 r3; branch r0 -> 0 1
			block 1 depth 0; return`, `
			block 0 depth 1; r4 = const 1; r2 = i64.add r2 r4; r3 = const 0; branch r0 -> 0 1
			block 1 depth 0; return`},
		{"a way that is never gone counts", `
			block 0 depth 0; r2 = const 1; branch r2 -> 1 2
			block 1 depth 0; jump -> 3
			block 2 depth 0; r2 = const 2; jump -> 3
			block 3 depth 0; r3 = move r2; return`, `
			block 0 depth 0; r2 = const 1; jump -> 1
			block 1 depth 0; jump -> 3
			block 2 depth 0; r2 = const 2; jump -> 3
			block 3 depth 0; r3 = move r2; return`},
	})
}

// landings are five blocks behind block 0, of several Depths, none of which gives anything.
const landings = "; block 1 depth 1; return; block 2 depth 2; return; block 3 depth 3; return; block 4 depth 4; return; block 5 depth 5; return"

func TestFoldBranch(t *testing.T) {
	for _, c := range []struct {
		value int64
		goes  int
	}{{0, 2}, {1, 4}, {2, 4}, {-1, 4}, {1 << 31, 4}, {1 << 32, 4}, {math.MinInt64, 4}} {
		ahead := fmt.Sprintf("block 0 depth 9; r2 = const %d; ", c.value)
		wantFold(t, "branch", of(ahead+"branch r2 -> 4 2"+landings), of(fmt.Sprintf("%sjump -> %d", ahead, c.goes)+landings))
		wantFold(t, "branch to the same", of(ahead+"branch r2 -> 3 3"+landings), of(ahead+"jump -> 3"+landings))
	}
	holdFold(t, []before{
		{"by what is not known", "block 0 depth 0; branch r0 -> 4 2" + landings, "block 0 depth 0; branch r0 -> 4 2" + landings},
		{"by what is not known, to the same", "block 0 depth 0; branch r0 -> 4 4" + landings, "block 0 depth 0; branch r0 -> 4 4" + landings},
		{"by what was reckoned", "block 0 depth 0; r2 = i64.eqz r2; branch r2 -> 4 2" + landings, "block 0 depth 0; r2 = const 1; jump -> 4" + landings},
		{"by what was known", "block 0 depth 0; r2 = const 1; r2 = global.get 0; branch r2 -> 4 2" + landings, "block 0 depth 0; r2 = const 1; r2 = global.get 0; branch r2 -> 4 2" + landings},
		{"without anything else", "block 0 depth 0; branch r5 -> 4 2" + landings, "block 0 depth 0; jump -> 2" + landings},
		{"to itself", "block 0 depth 0; r5 = const 3; branch r5 -> 0 2" + landings, "block 0 depth 0; r5 = const 3; jump -> 0" + landings},
		{"jumps stay", "block 0 depth 0; r2 = const 3; jump -> 3" + landings, "block 0 depth 0; r2 = const 3; jump -> 3" + landings},
		{"unreachable stays", "block 0 depth 0; r2 = const 3; unreachable", "block 0 depth 0; r2 = const 3; unreachable"},
	})
}

func TestFoldTable(t *testing.T) {
	for _, c := range []struct {
		value int64
		goes  int
	}{
		{0, 3}, {1, 1}, {2, 4}, {3, 2}, {4, 5}, {5, 5}, {6, 5}, {257, 5}, {1 << 31, 5}, {1<<32 - 1, 5},
		{-1, 5}, {1 << 32, 3}, {1<<32 + 3, 2}, {1<<32 + 4, 5}, {1<<32 + 5, 5}, {math.MinInt64, 3}, {math.MinInt64 + 1, 1},
	} {
		ahead := fmt.Sprintf("block 0 depth 9; r2 = const %d; ", c.value)
		wantFold(t, "table", of(ahead+"table r2 -> 3 1 4 2 5"+landings), of(fmt.Sprintf("%sjump -> %d", ahead, c.goes)+landings))
		wantFold(t, "table of one way", of(ahead+"table r2 -> 2"+landings), of(ahead+"jump -> 2"+landings))
	}
	holdFold(t, []before{
		{"by what is not known", "block 0 depth 0; table r0 -> 3 1 4" + landings, "block 0 depth 0; table r0 -> 3 1 4" + landings},
		{"by what is not known, of one way", "block 0 depth 0; table r0 -> 3" + landings, "block 0 depth 0; table r0 -> 3" + landings},
		{"by what is known from the begin on", "block 0 depth 0; table r7 -> 3 1 4" + landings, "block 0 depth 0; jump -> 3" + landings},
	})
}

// TestFoldGreatestTable: all 257 ways, and beyond.
func TestFoldGreatestTable(t *testing.T) {
	const most = 257
	for by := range 2 * most {
		c := vcode.Code{Regs: 1, Blocks: make([]vcode.Block, 1, most+1)}
		var next []int
		for i := range most {
			c.Blocks = append(c.Blocks, vcode.Block{Ins: []vcode.Ins{{Op: opcode.Return, Dst: -1}}})
			next = append(next, most-i)
		}
		lay := vcode.Ins{Op: opcode.Const64, N: int64(by)}
		c.Blocks[0] = vcode.Block{Ins: []vcode.Ins{lay, {Op: vcode.Table, Dst: -1, Src: []int{0}}}, Next: next}
		want := vcode.Clone(c)
		want.Blocks[0] = vcode.Block{Ins: []vcode.Ins{lay, {Op: vcode.Jump, Dst: -1}}, Next: []int{max(most-by, 1)}}
		wantFold(t, "the greatest table", c, want)
	}
}

// TestFoldUnreached: nothing of a block that can't be reached is changed.
func TestFoldUnreached(t *testing.T) {
	const rest = "block 1 depth 3; r2 = const 5; r3 = move r2; r4 = i64.add r2 r3; r5 = move r0; r6 = move r5; call r5 r6 1; branch r2 -> 0 1; block 2 depth 4; r3 = move r4; table r3 -> 1 2 0"
	holdFold(t, []before{{"two", "block 0 depth 0; r3 = move r2; return; " + rest, "block 0 depth 0; r3 = const 0; return; " + rest}})
	// What can be reached by a way that is never gone is none of these.
	holdFold(t, []before{{"one that is never come to", "block 0 depth 0; branch r2 -> 1 2; block 1 depth 0; r3 = move r2; r4 = move r0; r5 = i64.add r4 r3; return; block 2 depth 0; return", "block 0 depth 0; jump -> 2; block 1 depth 0; r3 = const 0; r4 = move r0; r5 = i64.add r0 r2; return; block 2 depth 0; return"}})
}

func TestFoldMoves(t *testing.T) {
	holdBlock(t, []before{
		{"a move", "r2 = move r0; call r2 1", "r2 = move r0; call r0 1"},
		{"twice taken", "r2 = move r0; call r2 r1 r2 1", "r2 = move r0; call r0 r1 r0 1"},
		{"two", "r2 = move r0; r3 = move r1; call r3 r2 1", "r2 = move r0; r3 = move r1; call r1 r0 1"},
		{"again and again", "r2 = move r0; call r2 1; call r2 2; r3 = i64.add r2 r2", "r2 = move r0; call r0 1; call r0 2; r3 = i64.add r0 r0"},
		{"what is taken ahead of the move", "r2 = move r1; call r2 1; r2 = move r0", "r2 = move r1; call r1 1; r2 = move r0"},
		{"the one that it was moved from is taken as it is", "r2 = move r0; call r0 1", "r2 = move r0; call r0 1"},
		{"by each kind of instruction", "r2 = move r0; r3 = i32.load r2 +4; i64.store8 r2 r2 +9; r3 = memory.grow r2; global.set r2 1; r3 = call_indirect r2 r2 5; r3 = select r2 r1 r2; r3 = i64.div_s r2 r2; r3 = i64.clz r2",
			"r2 = move r0; r3 = i32.load r0 +4; i64.store8 r0 r0 +9; r3 = memory.grow r0; global.set r0 1; r3 = call_indirect r0 r0 5; r3 = select r0 r1 r0; r3 = i64.div_s r0 r0; r3 = i64.clz r0"},

		{"that one was given anew", "r2 = move r0; r0 = global.get 1; call r2 1", "r2 = move r0; r0 = global.get 1; call r2 1"},
		{"that one was given a const", "r2 = move r0; r0 = const 1; call r2 1", "r2 = move r0; r0 = const 1; call r2 1"},
		{"that one was given by itself", "r2 = move r0; r0 = i64.add r0 r2; call r2 1", "r2 = move r0; r0 = i64.add r0 r0; call r2 1"},
		{"that one was given by a move", "r2 = move r0; r0 = move r1; call r2 r0 1", "r2 = move r0; r0 = move r1; call r2 r1 1"},
		{"that one was given by what takes the other one", "r2 = move r0; r0 = i64.clz r2; call r2 1", "r2 = move r0; r0 = i64.clz r0; call r2 1"},
		{"that one was given by a call", "r2 = move r0; r0 = call r2 1; call r2 1", "r2 = move r0; r0 = call r0 1; call r2 1"},
		{"itself was given anew", "r2 = move r0; r2 = global.get 1; call r2 1", "r2 = move r0; r2 = global.get 1; call r2 1"},
		{"itself was given a const", "r2 = move r0; r2 = const 1; call r2 1", "r2 = move r0; r2 = const 1; call r2 1"},
		{"itself was given by itself", "r2 = move r0; r2 = i64.add r2 r2; call r2 1", "r2 = move r0; r2 = i64.add r0 r0; call r2 1"},
		{"itself was given by another move", "r2 = move r0; r2 = move r1; call r2 1", "r2 = move r0; r2 = move r1; call r1 1"},
		{"given anew, and moved again", "r2 = move r0; r0 = global.get 1; r2 = move r0; call r2 1", "r2 = move r0; r0 = global.get 1; r2 = move r0; call r0 1"},
		{"another one was given anew", "r2 = move r0; r3 = global.get 1; r1 = const 1; call r2 1", "r2 = move r0; r3 = global.get 1; r1 = const 1; call r0 1"},

		{"a chain", "r2 = move r0; r3 = move r2; r4 = move r3; call r4 r3 r2 1", "r2 = move r0; r3 = move r0; r4 = move r0; call r0 r0 r0 1"},
		{"a chain whose first one was given anew", "r2 = move r0; r3 = move r2; r4 = move r3; r0 = global.get 1; call r4 r3 r2 1", "r2 = move r0; r3 = move r0; r4 = move r0; r0 = global.get 1; call r2 r2 r2 1"},
		{"a chain with one within given anew", "r2 = move r0; r3 = move r2; r4 = move r3; r2 = global.get 1; call r4 r3 r2 1", "r2 = move r0; r3 = move r0; r4 = move r0; r2 = global.get 1; call r0 r0 r2 1"},
		{"a chain whose last one was given anew", "r2 = move r0; r3 = move r2; r4 = move r3; r4 = global.get 1; call r4 r3 r2 1", "r2 = move r0; r3 = move r0; r4 = move r0; r4 = global.get 1; call r4 r0 r0 1"},
		{"a chain whose first two were given anew", "r2 = move r0; r3 = move r2; r4 = move r3; r2 = global.get 1; r0 = global.get 1; call r4 r3 r2 1", "r2 = move r0; r3 = move r0; r4 = move r0; r2 = global.get 1; r0 = global.get 1; call r3 r3 r2 1"},
		{"two from one that was given anew have nothing of each other", "r2 = move r0; r3 = move r0; r0 = global.get 1; call r2 r3 1", "r2 = move r0; r3 = move r0; r0 = global.get 1; call r2 r3 1"},
		{"three change places", "r2 = move r0; r0 = move r1; r1 = move r2; call r0 r1 r2 1", "r2 = move r0; r0 = move r1; r1 = move r2; call r0 r2 r2 1"},
		{"there and back", "r2 = move r0; r0 = move r2; call r0 r2 1", "r2 = move r0; r0 = move r0; call r0 r0 1"},
		{"to itself", "r2 = move r0; r0 = move r0; r2 = move r2; call r0 r2 1", "r2 = move r0; r0 = move r0; r2 = move r0; call r0 r0 1"},

		{"what is known is a move none the less", "r2 = const 5; r3 = move r2; call r3 r2 1", "r2 = const 5; r3 = const 5; call r2 r2 1"},
		{"what is known from the begin on", "r2 = move r3; call r2 r3 1", "r2 = const 0; call r3 r3 1"},
		{"what is known, by what gives something", "r2 = const 5; r3 = move r2; r4 = i64.add r3 r0; r4 = select r3 r0 r1; global.set r3 0", "r2 = const 5; r3 = const 5; r4 = i64.add r2 r0; r4 = select r2 r0 r1; global.set r2 0"},
		{"what is known, by what is known, too", "r2 = const 5; r3 = move r2; r4 = i64.add r3 r3; call r4 1", "r2 = const 5; r3 = const 5; r4 = const 10; call r4 1"},
		{"a chain of what is known", "r2 = const 5; r3 = move r2; r4 = move r3; call r4 r3 r2 1", "r2 = const 5; r3 = const 5; r4 = const 5; call r2 r2 r2 1"},
		{"a chain of what is known, whose first one was given anew", "r2 = const 5; r3 = move r2; r4 = move r3; r2 = global.get 1; call r4 r3 r2 1", "r2 = const 5; r3 = const 5; r4 = const 5; r2 = global.get 1; call r3 r3 r2 1"},
		{"a chain of what is known, whose first one was given a const", "r2 = const 5; r3 = move r2; r4 = move r3; r2 = const 6; call r4 r3 r2 1", "r2 = const 5; r3 = const 5; r4 = const 5; r2 = const 6; call r3 r3 r2 1"},
		{"a chain of what is known, whose last one was given a const", "r2 = const 5; r3 = move r2; r4 = move r3; r4 = const 6; call r4 r3 r2 1", "r2 = const 5; r3 = const 5; r4 = const 5; r4 = const 6; call r4 r2 r2 1"},
		{"what is known, there and back", "r2 = const 5; r3 = move r2; r2 = move r3; call r2 r3 1", "r2 = const 5; r3 = const 5; r2 = const 5; call r2 r2 1"},
		{"what is known, to itself", "r2 = const 5; r2 = move r2; r3 = move r2; r3 = move r3; call r3 1", "r2 = const 5; r2 = const 5; r3 = const 5; r3 = const 5; call r2 1"},
		{"what is known, and then what is not", "r2 = const 5; r3 = move r2; r3 = move r0; call r3 r2 1", "r2 = const 5; r3 = const 5; r3 = move r0; call r0 r2 1"},
		{"what is not known, and then what is", "r3 = move r0; r2 = const 5; r3 = move r2; call r3 r2 1", "r3 = move r0; r2 = const 5; r3 = const 5; call r2 r2 1"},
		{"what is reckoned, and known, is no move", "r2 = const 5; r3 = i64.or r2 r2; r4 = select r2 r3 r2; call r4 r3 r2 1", "r2 = const 5; r3 = const 5; r4 = const 5; call r4 r3 r2 1"},
		{"what was known, and is not", "r2 = const 5; r2 = global.get 1; r3 = move r2; call r3 r2 1", "r2 = const 5; r2 = global.get 1; r3 = move r2; call r2 r2 1"},
		{"beside what is known", "r2 = move r0; r3 = const 5; r3 = i64.add r2 r3; call r2 r3 1", "r2 = move r0; r3 = const 5; r3 = i64.add r0 r3; call r0 r3 1"},
		{"a select of what is not known is no move", "r2 = const 5; r3 = select r0 r1 r2; call r3 r0 1", "r2 = const 5; r3 = select r0 r1 r2; call r3 r0 1"},
	})
}

// TestFoldMovesAtEnds: ends take registers, too; and what was moved in one block is nothing to another one.
func TestFoldMovesAtEnds(t *testing.T) {
	holdFold(t, []before{
		{"a branch", "block 0 depth 0; r2 = move r0; branch r2 -> 4 2" + landings, "block 0 depth 0; r2 = move r0; branch r0 -> 4 2" + landings},
		{"a table", "block 0 depth 0; r2 = move r0; table r2 -> 4 2 1" + landings, "block 0 depth 0; r2 = move r0; table r0 -> 4 2 1" + landings},
		{"another block", "block 0 depth 0; r2 = move r0; jump -> 1; block 1 depth 0; call r2 1; return", "block 0 depth 0; r2 = move r0; jump -> 1; block 1 depth 0; call r2 1; return"},
		{"the same block, once more", "block 0 depth 0; call r2 1; r2 = move r0; jump -> 0", "block 0 depth 0; call r2 1; r2 = move r0; jump -> 0"},
		{"each block has its own", "block 0 depth 0; r2 = move r0; call r2 1; jump -> 1; block 1 depth 0; r2 = move r1; call r2 1; return", "block 0 depth 0; r2 = move r0; call r0 1; jump -> 1; block 1 depth 0; r2 = move r1; call r1 1; return"},
	})
	ends := func(text string) vcode.Code {
		return notation.Virtual("regs 3 params 1 result; block 0 depth 0; " + text)
	}
	wantFold(t, "a return", ends("r1 = move r0; return r1"), ends("r1 = move r0; return r0"))
	wantFold(t, "a return of what is known", ends("r1 = const 3; return r1"), ends("r1 = const 3; return r1"))
	wantFold(t, "a return of what is known, and was moved", ends("r1 = const 3; r2 = move r1; return r2"), ends("r1 = const 3; r2 = const 3; return r1"))
	wantFold(t, "a return of what is known from the begin on, and was moved", ends("r1 = move r2; return r1"), ends("r1 = const 0; return r2"))
	wantFold(t, "a return of another one", ends("r1 = move r0; r0 = i64.clz r0; return r1"), ends("r1 = move r0; r0 = i64.clz r0; return r1"))
}

// TestFoldKeeps: as many blocks and instructions, each Depth, and all of what there is nothing to do with.
func TestFoldKeeps(t *testing.T) {
	for _, c := range []vcode.Code{
		notation.Virtual("regs 6 params 2 result; block 0 depth 64; r4 = global.get 0; r5 = i64.load r4 +8; i32.store8 r4 r5 +4294967295; r1 = global.get 1; global.set r1 0; r1 = call r0 r1 3; call 1; r2 = call_indirect r4 r0 r1 0; r3 = select r3 r2 r4; r0 = memory.grow r0; r0 = i32.add r0 r1; return r5"),
		notation.Virtual("regs 0 params 0; block 0 depth 17; return"),
		notation.Virtual("regs 1024 params 1024; block 0 depth 1; r1023 = i64.eqz r0; branch r1023 -> 0 1; block 1 depth 2; unreachable"),
		{Blocks: []vcode.Block{{Ins: []vcode.Ins{{Op: vcode.Jump, Dst: -1}}, Next: []int{0}, Depth: 5}}},
	} {
		wantFold(t, "nothing to do", c, vcode.Clone(c))
	}
	k := makerOf(11)
	for range 500 {
		for _, c := range k.Codes(k.Module()) {
			wantShape(t, c, must[vcode.Code](t, "made")(fold.Fold(c)))
		}
	}
}

func wantShape(t *testing.T, c, made vcode.Code) {
	t.Helper()
	if c.Regs != made.Regs || c.Params != made.Params || c.Result != made.Result || len(c.Blocks) != len(made.Blocks) {
		t.Fatalf("%v\nis\n%v", lay(c), lay(made))
	}
	for i, b := range c.Blocks {
		if m := made.Blocks[i]; b.Depth != m.Depth || len(b.Ins) != len(m.Ins) {
			t.Fatalf("block %d of\n%v\nis\n%v", i, lay(c), lay(made))
		}
		for j, in := range b.Ins {
			if made.Blocks[i].Ins[j].Dst != in.Dst {
				t.Fatalf("block %d, instruction %d of\n%v\nis\n%v", i, j, lay(c), lay(made))
			}
		}
	}
}

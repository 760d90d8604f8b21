package vrun_test

import (
	"fmt"
	"math"
	"strings"
	"testing"

	"mandrel/api"
	"mandrel/inst"
	"mandrel/vcode"
)

// VR2: the ends.

// lands are blocks from 1 on, each of which gives ten times its number.
func lands(many int) string {
	var b strings.Builder
	for i := 1; i <= many; i++ {
		fmt.Fprintf(&b, "; block %d depth 0; r7 = const %d; return r7", i, 10*i)
	}
	return b.String()
}

func TestReturnAndUnreachable(t *testing.T) {
	holdAll(t, []trial{
		{"return of nothing", typeNone, "return", nil, nil, 0, 1},
		{"return of a value", typeTwo, "return r1", with(7, 8), give(8), 0, 1},
		{"return of a nought", typeI, "return r0", nil, give(0), 0, 1},
		{"return of 64 bits", typeBigII, "return r0", with(math.MaxUint64), give(math.MaxUint64), 0, 1},
		{"return of what it is, for an I32", typeI, "r0 = const 4294967303; return r0", nil, give(1<<32 + 7), 0, 2},
		{"unreachable", typeNone, "unreachable", nil, nil, api.Unreachable, 1},
		{"unreachable that could give", typeI, "r0 = const 1; unreachable", nil, nil, api.Unreachable, 2},
		{"what no way leads to is not done", typeI, "r0 = const 3; return r0; block 1 depth 0; unreachable", nil, give(3), 0, 2},
	})
}

func TestJump(t *testing.T) {
	holdAll(t, []trial{
		{"jump", typeI, "jump -> 1" + lands(2), nil, give(10), 0, 3},
		{"jump over one", typeI, "jump -> 2" + lands(2), nil, give(20), 0, 3},
		{"jump back", typeI, "jump -> 2; block 1 depth 0; return r0; block 2 depth 0; r0 = const 5; jump -> 1", nil, give(5), 0, 4},
		{"registers stay", typeTwo, "r2 = i32.add r0 r1; jump -> 1; block 1 depth 0; r2 = i32.add r2 r0; return r2", with(7, 8), give(22), 0, 4},
		{"jump to the first block", typeII, "branch r0 -> 2 1; block 1 depth 0; r0 = const 6; jump -> 0; block 2 depth 0; return r0", with(0), give(6), 0, 5},
		{"Depth is nothing to it", typeI, "jump -> 1; block 1 depth 64; jump -> 2; block 2 depth 3; return r0", nil, give(0), 0, 3},
	})
}

func TestBranch(t *testing.T) {
	for _, c := range []struct{ by, want uint64 }{{0, 20}, {1, 10}, {2, 10}, {1 << 31, 10}, {1<<32 - 1, 10}, {1 << 32, 10}, {1 << 63, 10}, {math.MaxUint64, 10}} {
		hold(t, trial{fmt.Sprintf("by %d", c.by), typeBigII, "branch r0 -> 1 2" + lands(2), with(c.by), give(c.want), 0, 3})
		hold(t, trial{fmt.Sprintf("the other way by %d", c.by), typeBigII, "branch r0 -> 2 1" + lands(2), with(c.by), give(30 - c.want), 0, 3})
		hold(t, trial{fmt.Sprintf("twice the same by %d", c.by), typeBigII, "branch r0 -> 1 1" + lands(1), with(c.by), give(10), 0, 3})
	}
	// The sum of all numbers up to one.
	const sum = "r2 = const 1; jump -> 1; block 1 depth 1; r1 = i32.add r1 r0; r0 = i32.sub r0 r2; branch r0 -> 1 2; block 2 depth 0; return r1"
	hold(t, trial{"a loop", typeII, sum, with(100), give(5050), 0, 2 + 100*3 + 1})
	hold(t, trial{"a loop, once", typeII, sum, with(1), give(1), 0, 2 + 3 + 1})
}

// TestTable: by each value, too great ones (the last one of Next) and ones of more than 32 bits.
func TestTable(t *testing.T) {
	for _, c := range []struct{ by, want uint64 }{
		{0, 30}, {1, 10}, {2, 10}, {3, 20}, {4, 40}, {5, 40}, {6, 40}, {1 << 31, 40}, {1<<32 - 1, 40},
		{1 << 32, 30}, {1<<32 + 1, 10}, {1<<32 + 3, 20}, {1<<32 + 4, 40}, {1<<32 + 5, 40}, {1 << 63, 30}, {1<<63 + 3, 20}, {math.MaxUint64, 40}, {math.MaxUint32 << 32, 30},
	} {
		hold(t, trial{fmt.Sprintf("by %d", c.by), typeBigII, "table r0 -> 3 1 1 2 4" + lands(4), with(c.by), give(c.want), 0, 3})
		hold(t, trial{fmt.Sprintf("of one way, by %d", c.by), typeBigII, "table r0 -> 2" + lands(2), with(c.by), give(20), 0, 3})
	}
	hold(t, trial{"a table in a loop", typeII, "r1 = const 1; table r0 -> 2 1; block 1 depth 1; r0 = i32.sub r0 r1; call 1; table r0 -> 2 1 1; block 2 depth 0; r0 = global.get 0; return r0", with(5), give(10), 0, 2 + 5*(3+stepsTold) + 2})
}

// TestGreatestTable: 257 ways.
func TestGreatestTable(t *testing.T) {
	const most = 257
	var next strings.Builder
	for i := range most {
		fmt.Fprintf(&next, " %d", i+1)
	}
	x := trial{typ: typeBigII, text: "table r0 ->" + next.String() + lands(most)}.machine(t)
	for by := range uint64(most + 5) {
		want := inst.Outcome{Values: give(10 * min(by+1, most)), Used: 3}
		for _, more := range []uint64{0, 1 << 32, math.MaxUint32 << 32} {
			if o := call(t, x, 0, with(by+more), plenty); !same(o, want) {
				t.Errorf("%d: %v, want %v", by+more, o, want)
			}
		}
	}
}

// TestMostBlocks: as many as there may be, with as many instructions, one after another.
func TestMostBlocks(t *testing.T) {
	c := vcode.Code{Params: 1, Regs: 2, Result: true, Blocks: make([]vcode.Block, vcode.MaxBlocks)}
	more := vcode.Ins{Op: 0x6a, Dst: 1, Src: []int{1, 0}}
	last := len(c.Blocks) - 1
	for i := range c.Blocks {
		c.Blocks[i] = vcode.Block{Ins: []vcode.Ins{more, more, more, {Op: vcode.Jump, Dst: -1}}, Next: []int{(i + 1) % len(c.Blocks)}}
	}
	c.Blocks[last] = vcode.Block{Ins: []vcode.Ins{more, more, more, {Op: 0x0f, Dst: -1, Src: []int{1}}}}
	l := codes(typeII, "return r0")
	l[0] = c
	want := inst.Outcome{Values: give(3 * 3 * vcode.MaxBlocks), Used: api.MaxBody}
	if o := call(t, machine(t, bench(typeII), l), 0, with(3), plenty); !same(o, want) {
		t.Errorf("%v, want %v", o, want)
	}
}

// TestNoEnd: what does not end uses all fuel.
func TestNoEnd(t *testing.T) {
	for _, text := range []string{
		"jump -> 0", "branch r0 -> 0 0", "table r0 -> 0", "r0 = const 1; branch r0 -> 0 1; block 1 depth 0; return",
		"jump -> 1; block 1 depth 1; call 6; jump -> 0", "r0 = const 9; table r0 -> 1 1 0; block 1 depth 0; return",
	} {
		x := trial{typ: typeNone, text: text}.machine(t)
		for _, fuel := range []int{0, 1, 2, 3, 4, 99, 10007} {
			if o := call(t, x, 0, nil, fuel); !same(o, inst.Outcome{Trap: api.Fuel, Used: fuel}) {
				t.Errorf("%s with fuel %d: %v", text, fuel, o)
			}
		}
	}
}

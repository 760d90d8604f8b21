package vcode_test

import (
	"math"
	"math/rand"
	"slices"
	"testing"

	"mandrel/notation"
	"mandrel/vcode"
)

// VC1: Check.

func TestCheckOfBench(t *testing.T) {
	wantCheck(t, "bench", benchCode(), true)
	wantCheck(t, "the example", notation.Virtual("regs 2 params 1 result; block 0 depth 0; r1 = i32.add r0 r0; return r1"), true)
	wantCheck(t, "nothing", vcode.Code{}, false)
	wantCheck(t, "no registers", notation.Virtual("regs 0 params 0; block 0 depth 0; return"), true)
}

// TestCheckOfOneWrong: bench with one thing of it another one.
func TestCheckOfOneWrong(t *testing.T) {
	for _, c := range []struct {
		name   string
		may    bool
		change func(c *vcode.Code)
	}{
		{"no blocks", false, func(c *vcode.Code) { c.Blocks = nil }},
		{"a block without instructions", false, func(c *vcode.Code) { c.Blocks[3].Ins = nil }},
		{"a last block without instructions", false, func(c *vcode.Code) { c.Blocks = append(c.Blocks, vcode.Block{}) }},
		{"a block without an end", false, func(c *vcode.Code) { c.Blocks[0].Ins = c.Blocks[0].Ins[:3] }},
		{"one without an end, and without Next", false, func(c *vcode.Code) { c.Blocks[0].Ins, c.Blocks[0].Next = c.Blocks[0].Ins[:3], nil }},
		{"an end ahead of the last one", false, func(c *vcode.Code) { c.Blocks[0].Ins[2] = vcode.Ins{Op: opTrap, Dst: -1} }},
		{"two ends", false, func(c *vcode.Code) { c.Blocks[4].Ins = append(c.Blocks[4].Ins, c.Blocks[4].Ins[0]) }},
		{"a jump to two blocks", false, func(c *vcode.Code) { c.Blocks[2].Next = []int{1, 1} }},
		{"a jump to none", false, func(c *vcode.Code) { c.Blocks[2].Next = nil }},
		{"a branch to one block", false, func(c *vcode.Code) { c.Blocks[0].Next = []int{1} }},
		{"a branch to three", false, func(c *vcode.Code) { c.Blocks[0].Next = []int{1, 1, 1} }},
		{"a branch to none", false, func(c *vcode.Code) { c.Blocks[0].Next = nil }},
		{"a table of none", false, func(c *vcode.Code) { c.Blocks[1].Next = nil }},
		{"a table of 1", true, func(c *vcode.Code) { c.Blocks[1].Next = []int{4} }},
		{"a table of 257", true, func(c *vcode.Code) { c.Blocks[1].Next = make([]int, 257) }},
		{"a table of 258", false, func(c *vcode.Code) { c.Blocks[1].Next = make([]int, 258) }},
		{"a return that leads on", false, func(c *vcode.Code) { c.Blocks[3].Next = []int{0} }},
		{"an unreachable that leads on", false, func(c *vcode.Code) { c.Blocks[4].Next = []int{0} }},
		{"a block that is not there", false, func(c *vcode.Code) { c.Blocks[0].Next[1] = 5 }},
		{"the last block", true, func(c *vcode.Code) { c.Blocks[0].Next[1] = 4 }},
		{"a block below 0", false, func(c *vcode.Code) { c.Blocks[0].Next[0] = -1 }},
		{"the last of a table is not there", false, func(c *vcode.Code) { c.Blocks[1].Next[2] = 5 }},
		{"a register below 0 that is taken", false, func(c *vcode.Code) { c.Blocks[0].Ins[2].Src[1] = -1 }},
		{"the last register is taken", true, func(c *vcode.Code) { c.Blocks[0].Ins[2].Src[1] = 5 }},
		{"a register that is not there is taken", false, func(c *vcode.Code) { c.Blocks[0].Ins[2].Src[1] = 6 }},
		{"the least number is taken", false, func(c *vcode.Code) { c.Blocks[0].Ins[2].Src[0] = math.MinInt }},
		{"a register that is not there ends", false, func(c *vcode.Code) { c.Blocks[0].Ins[7].Src[0] = 6 }},
		{"a register below -1 that is given", false, func(c *vcode.Code) { c.Blocks[0].Ins[2].Dst = -2 }},
		{"the last register is given", true, func(c *vcode.Code) { c.Blocks[0].Ins[2].Dst = 5 }},
		{"a register that is not there is given", false, func(c *vcode.Code) { c.Blocks[0].Ins[2].Dst = 6 }},
		{"nothing is given by an add", false, func(c *vcode.Code) { c.Blocks[0].Ins[2].Dst = -1 }},
		{"a store gives", false, func(c *vcode.Code) { c.Blocks[0].Ins[6].Dst = 0 }},
		{"a store gives below -1", false, func(c *vcode.Code) { c.Blocks[0].Ins[6].Dst = -2 }},
		{"an end gives", false, func(c *vcode.Code) { c.Blocks[2].Ins[2].Dst = 0 }},
		{"a call gives below -1", false, func(c *vcode.Code) { c.Blocks[1].Ins[5].Dst = -2 }},
		{"a call gives to a register that is not there", false, func(c *vcode.Code) { c.Blocks[1].Ins[5].Dst = 6 }},
		{"a call that gave does not", true, func(c *vcode.Code) { c.Blocks[1].Ins[4].Dst = -1 }},
		{"Params below 0", false, func(c *vcode.Code) { c.Params = -1 }},
		{"Params as many as Regs", true, func(c *vcode.Code) { c.Params = 6 }},
		{"Params above Regs", false, func(c *vcode.Code) { c.Params = 7 }},
		{"as many Regs as there may be", true, func(c *vcode.Code) { c.Regs = 1024 }},
		{"more Regs than there may be", false, func(c *vcode.Code) { c.Regs = 1025 }},
		{"the most Regs and Params", true, func(c *vcode.Code) { c.Regs, c.Params = 1024, 1024 }},
		{"too many Regs and Params", false, func(c *vcode.Code) { c.Regs, c.Params = 1025, 1025 }},
		{"Regs below 0", false, func(c *vcode.Code) { c.Regs = -1 }},
		{"Regs and Params below 0", false, func(c *vcode.Code) { c.Regs, c.Params = -1, -1 }},
		{"N of an add", false, func(c *vcode.Code) { c.Blocks[0].Ins[2].N = 1 }},
		{"N of a load", false, func(c *vcode.Code) { c.Blocks[0].Ins[5].N = 1 }},
		{"N of a jump", false, func(c *vcode.Code) { c.Blocks[2].Ins[2].N = -1 }},
		{"the least N of a const", true, func(c *vcode.Code) { c.Blocks[0].Ins[0].N = math.MinInt64 }},
		{"the greatest N of a const", true, func(c *vcode.Code) { c.Blocks[0].Ins[0].N = math.MaxInt64 }},
		{"a global below 0", false, func(c *vcode.Code) { c.Blocks[1].Ins[2].N = -1 }},
		{"a global below 0 that is set", false, func(c *vcode.Code) { c.Blocks[1].Ins[3].N = -1 }},
		{"the greatest global", true, func(c *vcode.Code) { c.Blocks[1].Ins[3].N = math.MaxInt64 }},
		{"a function below 0", false, func(c *vcode.Code) { c.Blocks[1].Ins[4].N = -1 }},
		{"the greatest function", true, func(c *vcode.Code) { c.Blocks[1].Ins[4].N = math.MaxInt64 }},
		{"a type below 0", false, func(c *vcode.Code) { c.Blocks[2].Ins[0].N = -1 }},
		{"the greatest type", true, func(c *vcode.Code) { c.Blocks[2].Ins[0].N = math.MaxInt64 }},
		{"Offset of an add", false, func(c *vcode.Code) { c.Blocks[0].Ins[2].Offset = 1 }},
		{"Offset of a const", false, func(c *vcode.Code) { c.Blocks[0].Ins[0].Offset = 1 }},
		{"Offset of memory.size", false, func(c *vcode.Code) { c.Blocks[1].Ins[0].Offset = 1 }},
		{"Offset of memory.grow", false, func(c *vcode.Code) { c.Blocks[1].Ins[1].Offset = 1 }},
		{"Offset of a move", false, func(c *vcode.Code) { c.Blocks[0].Ins[1].Offset = 1 }},
		{"Offset of an end", false, func(c *vcode.Code) { c.Blocks[2].Ins[2].Offset = math.MaxUint32 }},
		{"Depth below 0", false, func(c *vcode.Code) { c.Blocks[2].Depth = -1 }},
		{"Depth above MaxNest", false, func(c *vcode.Code) { c.Blocks[2].Depth = 65 }},
		{"Depth of the last block", false, func(c *vcode.Code) { c.Blocks[4].Depth = 65 }},
		{"a return of a value without Result", false, func(c *vcode.Code) { c.Result = false }},
		{"a return of nothing with Result", false, func(c *vcode.Code) { c.Blocks[3].Ins[0].Src = nil }},
		{"a return of two", false, func(c *vcode.Code) { c.Blocks[3].Ins[0].Src = []int{1, 2} }},
		{"a return of nothing without Result", true, func(c *vcode.Code) { c.Result, c.Blocks[3].Ins[0].Src = false, nil }},
		{"i32.const", false, func(c *vcode.Code) { c.Blocks[0].Ins[0].Op = 0x41 }},
		{"a nop", false, func(c *vcode.Code) { c.Blocks[4].Ins = slices.Insert(c.Blocks[4].Ins, 0, vcode.Ins{Op: 0x01, Dst: -1}) }},
	} {
		code := benchCode()
		c.change(&code)
		wantCheck(t, c.name, code, c.may)
	}
}

// around has an instruction as all of its block, if it is an end, else ahead of a return.
func around(in vcode.Ins, next []int, result bool) vcode.Code {
	c := vcode.Code{Params: 1, Regs: 4, Result: result}
	if isEnd(in.Op) {
		c.Blocks = []vcode.Block{{Ins: []vcode.Ins{in}, Next: next}}
		return c
	}
	end := vcode.Ins{Op: opReturn, Dst: -1}
	if result {
		end.Src = []int{0}
	}
	c.Blocks = []vcode.Block{{Ins: []vcode.Ins{in, end}, Next: next}}
	return c
}

// leadsOn are blocks for an instruction to go to, as many as it needs.
func leadsOn(op byte) []int {
	switch op {
	case vcode.Jump, vcode.Table:
		return []int{0}
	case vcode.Branch:
		return []int{0, 0}
	}
	return nil
}

// TestCheckOfAllInstructions: each number, with few and many registers, all that may be given, and numbers.
func TestCheckOfAllInstructions(t *testing.T) {
	may := 0
	for op := range 256 {
		for takes := range 7 {
			for dst := -2; dst <= 4; dst++ {
				for n := int64(-1); n <= 1; n++ {
					for offset := range uint32(2) {
						for _, result := range []bool{false, true} {
							in := vcode.Ins{Op: byte(op), Dst: dst, Src: []int{3, 2, 1, 0, 0, 0}[:takes], N: n, Offset: offset}
							c := around(in, leadsOn(in.Op), result)
							want := secondMay(c)
							if got := vcode.Check(c) == nil; got != want {
								t.Fatalf("%#v: it is %v that it may be, want %v", c, got, want)
							}
							if want {
								may++
							}
						}
					}
				}
			}
		}
	}
	if may < 1000 {
		t.Errorf("only %d of them may be", may)
	}
}

// TestCheckOfAllNext: each end, and what is none, with few and many blocks that follow.
func TestCheckOfAllNext(t *testing.T) {
	for op := range 256 {
		f, ok := familyOf(byte(op))
		if !ok {
			continue
		}
		in := vcode.Ins{Op: byte(op), Dst: -1, Src: make([]int, f.takes)}
		if f.gives == "yes" {
			in.Dst = 0
		}
		for _, many := range []int{0, 1, 2, 3, 4, 255, 256, 257, 258, 259, 1000} {
			c := around(in, make([]int, many), false)
			if got := vcode.Check(c) == nil; got != secondMay(c) {
				t.Errorf("%#x with %d blocks behind it: it is %v that it may be", op, many, got)
			}
		}
	}
}

// rings are as many blocks, each a jump to the next one.
func rings(many int) vcode.Code {
	c := vcode.Code{Blocks: make([]vcode.Block, many)}
	for i := range c.Blocks {
		c.Blocks[i] = vcode.Block{Ins: []vcode.Ins{{Op: vcode.Jump, Dst: -1}}, Next: []int{(i + 1) % many}}
	}
	return c
}

// long is code of a block with so many instructions.
func long(many int) vcode.Code {
	c := vcode.Code{Regs: 1, Blocks: []vcode.Block{{}}}
	for range many - 1 {
		c.Blocks[0].Ins = append(c.Blocks[0].Ins, vcode.Ins{Op: opConst})
	}
	c.Blocks[0].Ins = append(c.Blocks[0].Ins, vcode.Ins{Op: opReturn, Dst: -1})
	return c
}

func TestCheckAtLimits(t *testing.T) {
	wantCheck(t, "one block", rings(1), true)
	wantCheck(t, "the most blocks", rings(4096), true)
	wantCheck(t, "a block more", rings(4097), false)
	wantCheck(t, "the most instructions", long(16384), true)
	wantCheck(t, "an instruction more", long(16385), false)
	// The limit is of all blocks together.
	both := long(8192)
	both.Blocks = append(both.Blocks, long(8192).Blocks...)
	wantCheck(t, "the most in two blocks", both, true)
	both.Blocks = append(both.Blocks, long(1).Blocks...)
	wantCheck(t, "one more in three blocks", both, false)
	wantCheck(t, "calls take any", around(vcode.Ins{Op: opCall, Dst: -1, Src: make([]int, 5000)}, nil, false), true)
	wantCheck(t, "indirect ones too", around(vcode.Ins{Op: opPick, Dst: 3, Src: make([]int, 5000)}, nil, true), true)
}

// TestCheckOfChanged: bench with any few parts of it changed.
func TestCheckOfChanged(t *testing.T) {
	r := rand.New(rand.NewSource(11))
	for range 20000 {
		c := benchCode()
		for range 1 + r.Intn(3) {
			spoil(r, &c)
		}
		if got, want := vcode.Check(c) == nil, secondMay(c); got != want {
			t.Fatalf("%#v: it is %v that it may be, want %v", c, got, want)
		}
	}
}

// spoil changes any part of code that has a block with an instruction.
func spoil(r *rand.Rand, c *vcode.Code) {
	b := &c.Blocks[r.Intn(len(c.Blocks))]
	in := &b.Ins[r.Intn(len(b.Ins))]
	switch r.Intn(10) {
	case 0:
		c.Params = r.Intn(9) - 1
	case 1:
		c.Regs = r.Intn(9) - 1
	case 2:
		c.Result = !c.Result
	case 3:
		b.Depth = r.Intn(68) - 2
	case 4:
		b.Next = append(b.Next, r.Intn(7)-1)
	case 5:
		b.Next = b.Next[:len(b.Next)/2]
	case 6:
		in.Op = byte(r.Intn(256))
	case 7:
		in.Dst = r.Intn(9) - 2
	case 8:
		in.Src = append(in.Src, r.Intn(8)-1)
	case 9:
		in.N = int64(r.Intn(3) - 1)
	}
}

package vcode_test

import (
	"fmt"
	"math"
	"strings"
	"testing"

	"mandrel/api"
	"mandrel/notation"
	"mandrel/ops"
	"mandrel/vcode"
)

// VC2: Text.

// wantText holds Text against lines.
func wantText(t *testing.T, what string, c vcode.Code, want string) {
	t.Helper()
	before := told(c)
	if got, err := vcode.Text(c); err != nil || got != want {
		t.Errorf("%s: %q, %v, want %q", what, got, err, want)
	}
	if told(c) != before {
		t.Errorf("%s: the code was changed", what)
	}
}

func TestTextOfBench(t *testing.T) {
	wantText(t, "bench", benchCode(), `regs 6 params 2 result
block 0 depth 0
  r2 = const -5
  r3 = move r2
  r3 = i64.add r3 r2
  r4 = i32.eqz r3
  r5 = select r3 r2 r4
  r5 = i64.load r4 +8
  i32.store8 r4 r5 +4294967295
  branch r4 -> 1 2
block 1 depth 1
  r0 = memory.size
  r0 = memory.grow r0
  r1 = global.get 1
  global.set r1 0
  r1 = call r0 r1 0
  call 1
  table r1 -> 1 2 3
block 2 depth 64
  call_indirect r3 1
  r2 = call_indirect r3 r0 r1 0
  jump -> 1
block 3 depth 2
  return r5
block 4 depth 0
  unreachable
`)
	wantText(t, "the least", vcode.Code{Blocks: []vcode.Block{{Ins: []vcode.Ins{{Op: opReturn, Dst: -1}}}}}, "regs 0 params 0\nblock 0 depth 0\n  return\n")
}

// secondLine is a second reading of an instruction's line.
func secondLine(in vcode.Ins, next []int) string {
	var words []string
	if in.Dst >= 0 {
		words = append(words, fmt.Sprintf("r%d", in.Dst), "=")
	}
	special := map[byte]string{0x42: "const", 0xc0: "move", 0xc1: "jump", 0xc2: "branch", 0xc3: "table"}
	if name, ok := special[in.Op]; ok {
		words = append(words, name)
	} else {
		words = append(words, ops.Name(in.Op))
	}
	for _, r := range in.Src {
		words = append(words, fmt.Sprintf("r%d", r))
	}
	switch in.Op {
	case opConst, opGet, opSet, opCall, opPick:
		words = append(words, fmt.Sprint(in.N))
	}
	if isAccess(in.Op) {
		words = append(words, fmt.Sprintf("+%d", in.Offset))
	}
	if isEnd(in.Op) && len(next) > 0 {
		words = append(words, "->")
		for _, n := range next {
			words = append(words, fmt.Sprint(n))
		}
	}
	return "  " + strings.Join(words, " ") + "\n"
}

// TestTextOfAllInstructions: each one's line, with numbers and offsets, giving and not giving, and read back.
func TestTextOfAllInstructions(t *testing.T) {
	seen := 0
	for op := range 256 {
		for takes := range 4 {
			for _, dst := range []int{-1, 3} {
				for _, n := range []int64{0, 7, math.MinInt64, math.MaxInt64} {
					for _, offset := range []uint32{0, math.MaxUint32} {
						in := vcode.Ins{Op: byte(op), Dst: dst, Src: []int{2, 0, 3}[:takes], N: n, Offset: offset}
						c := around(in, leadsOn(in.Op), false)
						if vcode.Check(c) != nil {
							continue
						}
						want := "regs 4 params 1\nblock 0 depth 0\n" + secondLine(in, c.Blocks[0].Next)
						if !isEnd(in.Op) {
							want += "  return\n"
						}
						wantText(t, told(in), c, want)
						if back := notation.Virtual(want); !vcode.Same(back, c) {
							t.Errorf("%q is read back as %v", want, back)
						}
						seen++
					}
				}
			}
		}
	}
	if seen < 150 {
		t.Errorf("only %d lines were told", seen)
	}
}

// ofBytes is code whose lines have just so many bytes: 65,500 at least.
func ofBytes(t *testing.T, bytes int) vcode.Code {
	t.Helper()
	c := long(1)
	line := vcode.Ins{Op: opConst}
	// The lines of long(1) have 41 bytes, one of a const 0 has 15.
	count := (bytes - 41) / 15
	left := (bytes - 41) % 15
	block := &c.Blocks[0]
	end := block.Ins[0]
	block.Ins = nil
	for i := range count {
		in := line
		if i == 0 {
			in.N = tens(left)
		}
		block.Ins = append(block.Ins, in)
	}
	block.Ins = append(block.Ins, end)
	return c
}

// tens has so many digits more than 0.
func tens(more int) int64 {
	if more == 0 {
		return 0
	}
	n := int64(1)
	for range more {
		n *= 10
	}
	return n
}

func TestTextAtItsLimit(t *testing.T) {
	for bytes := api.MaxText - 20; bytes <= api.MaxText+20; bytes++ {
		c := ofBytes(t, bytes)
		if vcode.Check(c) != nil {
			t.Fatal("the code may not be")
		}
		s, err := vcode.Text(c)
		if bytes > api.MaxText {
			if s != "" || number(err) != api.ErrLong {
				t.Errorf("%d bytes: %d, %v", bytes, len(s), err)
			}
			continue
		}
		if err != nil || len(s) != bytes {
			t.Errorf("%d bytes: %d, %v", bytes, len(s), err)
		}
	}
	if s, err := vcode.Text(long(16384)); s != "" || number(err) != api.ErrLong {
		t.Errorf("the longest: %d bytes, %v", len(s), err)
	}
	if s, err := vcode.Text(long(16385)); s != "" || number(err) != api.ErrArg {
		t.Errorf("longer than may be: %d bytes, %v", len(s), err)
	}
}

// TestConstants: the numbers that chapter 11 names.
func TestConstants(t *testing.T) {
	if vcode.Move != 0xc0 || vcode.Jump != 0xc1 || vcode.Branch != 0xc2 || vcode.Table != 0xc3 || vcode.MaxRegs != 1024 || vcode.MaxBlocks != 4096 {
		t.Errorf("a constant is another one")
	}
}

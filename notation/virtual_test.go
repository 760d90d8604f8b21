package notation_test

import (
	"reflect"
	"testing"

	"mandrel/notation"
	"mandrel/vcode"
)

func TestVirtual(t *testing.T) {
	for text, want := range map[string]vcode.Code{
		"regs 3 params 1": {Regs: 3, Params: 1},
		"regs 2 params 1 result\nblock 0 depth 0\n  r1 = i32.add r0 r0\n  return r1\n": {Regs: 2, Params: 1, Result: true, Blocks: []vcode.Block{
			{Ins: []vcode.Ins{{Op: 0x6a, Dst: 1, Src: []int{0, 0}}, {Op: 0x0f, Dst: -1, Src: []int{1}}}},
		}},
		";regs 4 params 0; block 0 depth 3; r1 = const -7;; r0 = move r1; i64.store r0 r1 +8; r2 = i64.load r0 +4294967295; jump -> 1; block 1 depth 64; table r3 -> 0 1 0": {Regs: 4, Blocks: []vcode.Block{
			{Depth: 3, Next: []int{1}, Ins: []vcode.Ins{
				{Op: 0x42, Dst: 1, N: -7}, {Op: 0xc0, Dst: 0, Src: []int{1}}, {Op: 0x37, Dst: -1, Src: []int{0, 1}, Offset: 8}, {Op: 0x29, Dst: 2, Src: []int{0}, Offset: 1<<32 - 1}, {Op: 0xc1, Dst: -1},
			}},
			{Depth: 64, Next: []int{0, 1, 0}, Ins: []vcode.Ins{{Op: 0xc3, Dst: -1, Src: []int{3}}}},
		}},
		"regs 1 params 0; block 0 depth 0; call 5; r0 = call_indirect r0 r0 2; global.set r0 1; branch r0 -> 0 0": {Regs: 1, Blocks: []vcode.Block{
			{Next: []int{0, 0}, Ins: []vcode.Ins{{Op: 0x10, Dst: -1, N: 5}, {Op: 0x11, Dst: 0, Src: []int{0, 0}, N: 2}, {Op: 0x24, Dst: -1, Src: []int{0}, N: 1}, {Op: 0xc2, Dst: -1, Src: []int{0}}}},
		}},
	} {
		if got := notation.Virtual(text); !reflect.DeepEqual(got, want) {
			t.Errorf("%q: %v, want %v", text, got, want)
		}
	}
}

// TestWrongLines: what is wrong is told, and not read as another one.
func TestWrongLines(t *testing.T) {
	for _, line := range []string{
		"regs", "regs 1", "regs 1 params", "regs 1 params x", "params 1 regs 1", "regs 1 params 0 results",
		"regs 1 params 0; return", "regs 1 params 0; block 1 depth 0", "regs 1 params 0; block 0", "regs 1 params 0; block 0 depth",
	} {
		wantPanic(t, line)
	}
	for _, line := range []string{"no", "r0", "r0 =", "r0 = no r0", "r0 const 5", "r0 = const x", "r0 = const 5 6", "i64.load r0 +", "jump -> x", "jump 1 2", "jump -> 1 r0", "move rx"} {
		wantPanic(t, "regs 1 params 0; block 0 depth 0; "+line)
	}
}

func wantPanic(t *testing.T, text string) {
	t.Helper()
	defer func() {
		if recover() == nil {
			t.Errorf("%q is read", text)
		}
	}()
	notation.Virtual(text)
}

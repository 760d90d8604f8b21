package fold_test

import (
	"testing"

	"mandrel/fold"
	"mandrel/opcode"
	"mandrel/vcode"
)

// greatest is a ring of as many blocks as code may have, with as many registers; each block gives one register, the first one what no one knows.
func greatest() vcode.Code {
	const blocks, regs = 4096, 1024
	c := vcode.Code{Regs: regs}
	for i := range blocks {
		first := vcode.Ins{Op: opcode.Const64, Dst: i % regs, N: int64(i / regs)}
		if i == 0 {
			first = vcode.Ins{Op: opcode.GlobalGet, Dst: 0}
		}
		c.Blocks = append(c.Blocks, vcode.Block{
			Ins:  []vcode.Ins{first, {Op: vcode.Move, Dst: i % regs, Src: []int{i % regs}}, {Op: vcode.Jump, Dst: -1}},
			Next: []int{(i + 1) % blocks},
		})
	}
	return c
}

// TestGreatestCode: what is known goes around once; what is there of the last time around is not what it begins with.
func TestGreatestCode(t *testing.T) {
	c := greatest()
	got := must[[]map[int]uint64](t, "Known")(fold.Known(c))
	for b := range got {
		// Of the registers that were given this time around the value is known; of the others of the first 1,024 blocks nothing, as they have another one each time.
		want := max(0, min(b, c.Regs)-1)
		if b > c.Regs {
			want = c.Regs
		}
		if len(got[b]) != want {
			t.Fatalf("at block %d %d registers are known, want %d", b, len(got[b]), want)
		}
		for r, v := range got[b] {
			if v != uint64((b-1-r)/c.Regs) {
				t.Fatalf("at block %d register %d is %d", b, r, v)
			}
		}
	}
	made := must[vcode.Code](t, "Fold")(fold.Fold(c))
	for b, block := range made.Blocks {
		want := vcode.Ins{Op: opcode.Const64, Dst: b % c.Regs, N: int64(b / c.Regs)}
		if b == 0 {
			want = vcode.Ins{Op: vcode.Move, Src: []int{0}}
		}
		if got := block.Ins[1]; told(got) != told(want) {
			t.Fatalf("in block %d there is %v, want %v", b, got, want)
		}
	}
}

// TestLongestChain: a value that is known goes through all registers, and is taken out of the last one by as many instructions as code may have.
func TestLongestChain(t *testing.T) {
	const regs, all = 1024, 16384
	c := vcode.Code{Params: 1, Regs: regs, Blocks: make([]vcode.Block, 1)}
	l := []vcode.Ins{{Op: opcode.Const64, Dst: 1, N: 7}}
	for r := 2; r < regs; r++ {
		l = append(l, vcode.Ins{Op: vcode.Move, Dst: r, Src: []int{r - 1}})
	}
	for len(l) < all-1 {
		l = append(l, vcode.Ins{Op: 0x7c, Dst: 0, Src: []int{regs - 1, 0}})
	}
	c.Blocks[0].Ins = append(l, vcode.Ins{Op: opcode.Return, Dst: -1})
	made := must[vcode.Code](t, "Fold")(fold.Fold(c))
	for i, in := range made.Blocks[0].Ins[:all-1] {
		want := vcode.Ins{Op: opcode.Const64, Dst: i + 1, N: 7}
		if i+1 >= regs {
			want = vcode.Ins{Op: 0x7c, Dst: 0, Src: []int{1, 0}}
		}
		if told(in) != told(want) {
			t.Fatalf("instruction %d is %v, want %v", i, in, want)
		}
	}
}

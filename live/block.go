package live

import (
	"iter"
	"slices"

	"mandrel/vcode"
)

// nowhere is the Dst of an instruction that gives nothing.
const nowhere = -1

// takenBy are the registers that a block takes ahead of giving them: those that are needed at its begin, if behind it none is.
func takenBy(b vcode.Block, regs int) Set {
	out := setFor(regs)
	for _, in := range slices.Backward(b.Ins) {
		out.goBack(in)
	}
	return out
}

func givenBy(b vcode.Block, regs int) Set {
	out := setFor(regs)
	for _, in := range b.Ins {
		if in.Dst != nowhere {
			out.add(in.Dst)
		}
	}
	return out
}

// goBack makes of what is needed behind an instruction what is needed ahead of it.
func (s Set) goBack(in vcode.Ins) {
	// It takes ahead of giving, so that what it does both with is needed.
	if in.Dst != nowhere {
		s.drop(in.Dst)
	}
	for _, r := range in.Src {
		s.add(r)
	}
}

// backwards hands on what is needed behind each instruction of a block, the last one first, by what is needed behind the block. It is one set, which changes as that goes on.
func backwards(b vcode.Block, end Set) iter.Seq2[int, Set] {
	return func(yield func(int, Set) bool) {
		s := slices.Clone(end)
		for i, in := range slices.Backward(b.Ins) {
			if !yield(i, s) {
				return
			}
			s.goBack(in)
		}
	}
}

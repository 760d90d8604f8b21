package flow

import (
	"slices"

	"mandrel/vcode"
)

// What is made here may have lists of the code that it is made of, but is not written into these.

// trimmed is code of the blocks alone that can be reached.
func trimmed(c vcode.Code) vcode.Code {
	reached := walkOf(c.Blocks).entered
	slices.Sort(reached)
	anew := make([]int, len(c.Blocks))
	blocks := make([]vcode.Block, len(reached))
	for i, b := range reached {
		anew[b] = i
		blocks[i] = c.Blocks[b]
	}
	c.Blocks = blocks
	tellNext(blocks, anew)
	return c
}

// tellNext tells each of all Next by its entry in a list.
func tellNext(blocks []vcode.Block, by []int) {
	for i := range blocks {
		next := slices.Clone(blocks[i].Next)
		for j, n := range next {
			next[j] = by[n]
		}
		blocks[i].Next = next
	}
}

// threaded is code in which blocks that are one jump alone are gone by.
func threaded(c vcode.Code) vcode.Code {
	behind := make([]int, len(c.Blocks))
	for b := range behind {
		behind[b] = behindJumps(c.Blocks, b)
	}
	c.Blocks = slices.Clone(c.Blocks)
	tellNext(c.Blocks, behind)
	for i := range c.Blocks {
		b := &c.Blocks[i]
		if end(*b).Op == vcode.Branch && b.Next[0] == b.Next[1] {
			b.Ins = append(straight(*b), vcode.Ins{Op: vcode.Jump, Dst: -1})
			b.Next = b.Next[:1]
		}
	}
	return c
}

// behindJumps is where jumps lead that are blocks alone, from a block on; the block itself, if they lead round and round.
func behindJumps(blocks []vcode.Block, from int) int {
	at := from
	for range len(blocks) {
		if b := blocks[at]; len(b.Ins) > 1 || end(b).Op != vcode.Jump {
			return at
		}
		at = blocks[at].Next[0]
	}
	return from
}

// end is the last instruction of a block.
func end(b vcode.Block) vcode.Ins { return b.Ins[len(b.Ins)-1] }

// straight is a block's instructions but for its end. There is no room behind them: what is laid there is laid into new memory, and the end stays where it was.
func straight(b vcode.Block) []vcode.Ins {
	last := len(b.Ins) - 1
	return b.Ins[:last:last]
}

// joined is code, all of whose blocks can be reached, in which blocks have taken those that follow them alone. What was taken stays, but can't be reached any more.
func joined(c vcode.Code) vcode.Code {
	takes := takesOf(c.Blocks)
	blocks := slices.Clone(c.Blocks)
	for i := range blocks {
		// Others go on as they are: what they would take is taken by those that take them.
		if takes[i] != nowhere && !slices.Contains(takes, i) {
			blocks[i] = chained(c.Blocks, i, takes)
		}
	}
	c.Blocks = blocks
	return c
}

// takesOf is of each block the one that it takes in the place of its jump; nowhere, if there is none.
func takesOf(blocks []vcode.Block) []int {
	ways := make([]int, len(blocks))
	for _, b := range blocks {
		for _, n := range b.Next {
			ways[n]++
		}
	}
	out := slices.Repeat([]int{nowhere}, len(blocks))
	for i, b := range blocks {
		if end(b).Op != vcode.Jump {
			continue
		}
		// One that jumps to itself is block 0, or another one leads to it.
		if n := b.Next[0]; n != 0 && ways[n] == 1 {
			out[i] = n
		}
	}
	return out
}

// chained is a block with all that it takes, one behind another. That ends: no block that is taken takes the one that takes all, and none is taken twice.
func chained(blocks []vcode.Block, first int, takes []int) vcode.Block {
	list := straight(blocks[first])
	last := first
	for takes[last] != nowhere {
		last = takes[last]
		list = append(list, straight(blocks[last])...)
	}
	return vcode.Block{
		Ins:   append(list, end(blocks[last])),
		Next:  blocks[last].Next,
		Depth: blocks[first].Depth,
	}
}

package flow

import (
	"slices"

	"mandrel/vcode"
)

// walk goes through all blocks that can be reached, from block 0 on. Its turns number them, as they were gone into.
type walk struct {
	blocks  []vcode.Block
	entered []int // of each turn its block
	from    []int // of each turn that of the block out of which its block was gone into
	turn    []int // of each block its turn; nowhere, if it can't be reached
	left    []int // the blocks, as they were left
}

func walkOf(blocks []vcode.Block) walk {
	w := walk{blocks: blocks, turn: slices.Repeat([]int{nowhere}, len(blocks))}
	w.enter(0, nowhere)
	return w
}

// enter goes into a block, and out of it into all others that were not gone into yet. There is room for that: they are MaxBlocks at most.
func (w *walk) enter(block, from int) {
	turn := len(w.entered)
	w.turn[block] = turn
	w.entered = append(w.entered, block)
	w.from = append(w.from, from)
	for _, n := range w.blocks[block].Next {
		if w.turn[n] == nowhere {
			w.enter(n, turn)
		}
	}
	w.left = append(w.left, block)
}

// waysBack are, of each block, the begins of the ways back to it; a tree is asked whether a turn's block is over another one's, or is it.
func (w *walk) waysBack(t tree, covers func(t tree, a, b int) bool) [][]int {
	out := make([][]int, len(w.blocks))
	for turn, block := range w.entered {
		for _, n := range w.blocks[block].Next {
			if covers(t, w.turn[n], turn) {
				out[n] = append(out[n], block)
			}
		}
	}
	return out
}

// aheadOf are, of each block, all that lead to it, also those that can't be reached.
func aheadOf(blocks []vcode.Block) [][]int {
	out := make([][]int, len(blocks))
	for i, b := range blocks {
		for _, n := range b.Next {
			// A block that leads there twice was laid just now.
			if l := out[n]; len(l) == 0 || l[len(l)-1] != i {
				out[n] = append(l, i)
			}
		}
	}
	return out
}

// around are the blocks of the loop that has a head and ways back with these begins.
func around(head int, begins []int, ahead [][]int) []int {
	in := make([]bool, len(ahead))
	in[head] = true
	var waiting []int
	come := func(to []int) {
		for _, b := range to {
			if !in[b] {
				in[b] = true
				waiting = append(waiting, b)
			}
		}
	}
	come(begins)
	for len(waiting) > 0 {
		last := waiting[len(waiting)-1]
		waiting = waiting[:len(waiting)-1]
		come(ahead[last])
	}
	var out []int
	for b := range len(in) {
		if in[b] {
			out = append(out, b)
		}
	}
	return out
}

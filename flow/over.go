package flow

import "slices"

// tree tells of each turn of a walk that of the nearest block over its block; nowhere of the first one. What is over a block was gone into ahead of it.
type tree []int

// covers tells whether a is over b, or is it; both are turns.
func (t tree) covers(a, b int) bool {
	for b > a {
		b = t[b]
	}
	return b == a
}

// treeOf is a walk's tree, as Lengauer and Tarjan find it: in one pass, where plainer means go over all blocks again and again, if ways cross much.
//
// A detour to a block is a way to it on which all blocks between were gone into later than it; the widest one begins at the block that was gone into first. Of the blocks by which the walk came to it those behind that begin are not over it, as the detour goes round them. So the nearest one over it is the nearest one that stands no further than that begin, of the last block by which the walk came to it and all that are over this one.
func treeOf(w walk, ahead [][]int) tree {
	t := slices.Clone(w.from)
	for turn, begin := range widest(w, ahead) {
		for t[turn] > begin {
			t[turn] = t[t[turn]]
		}
	}
	return t
}

// widest tells of each turn where the widest detour to its block begins; nowhere of the first one.
func widest(w walk, ahead [][]int) []int {
	out := slices.Clone(w.from)
	c := climb{up: slices.Clone(w.from), least: make([]int, len(w.from))}
	for turn := len(out) - 1; turn > 0; turn-- {
		for _, b := range ahead[w.entered[turn]] {
			switch from := w.turn[b]; {
			case from > turn:
				out[turn] = min(out[turn], c.leastBehind(turn, from))
			case from != nowhere:
				out[turn] = min(out[turn], from)
			}
		}
		c.least[turn] = out[turn]
	}
	return out
}

// climb goes up the ways by which a walk came to its blocks.
type climb struct {
	up    []int // of each turn one ahead of it on the walk's way to it: the last one, or one further up, where it was climbed already
	least []int // of each turn the least of where the widest detours begin: to it, and to all below up
}

// leastBehind is the least of where the widest detours begin: to a turn behind a limit, and to all on the walk's way to it that are behind that limit too.
func (c *climb) leastBehind(limit, turn int) int {
	if above := c.up[turn]; above > limit {
		c.least[turn] = min(c.least[turn], c.leastBehind(limit, above))
		c.up[turn] = c.up[above]
	}
	return c.least[turn]
}

package flow_test

import (
	"math/rand"
	"slices"

	"mandrel/flow"
	"mandrel/opcode"
	"mandrel/sample"
	"mandrel/vcode"
)

// The chapter's words once more, each as it stands there, whatever that costs.

// from are the blocks to which there is a way from one, that does not go through another one (-1: through any).
func from(c vcode.Code, begin, without int) []bool {
	in := make([]bool, len(c.Blocks))
	if begin == without {
		return in
	}
	in[begin] = true
	for more := true; more; {
		more = false
		for i, b := range c.Blocks {
			for _, n := range b.Next {
				if in[i] && !in[n] && n != without {
					in[n], more = true, true
				}
			}
		}
	}
	return in
}

// isOver: all ways from block 0 to b go through a.
func isOver(c vcode.Code, a, b int) bool {
	return a != b && from(c, 0, -1)[b] && !from(c, 0, a)[b]
}

func secondOrder(c vcode.Code) []int {
	var into, out []int
	// What is gone into stands one behind the other: the last one is gone on with, or left.
	into = append(into, 0)
	seen := []int{0}
	for len(into) > 0 {
		next := c.Blocks[into[len(into)-1]].Next
		i := slices.IndexFunc(next, func(n int) bool { return !slices.Contains(seen, n) })
		if i < 0 {
			out = append([]int{into[len(into)-1]}, out...)
			into = into[:len(into)-1]
			continue
		}
		into, seen = append(into, next[i]), append(seen, next[i])
	}
	return out
}

func secondAhead(c vcode.Code) [][]int {
	out := make([][]int, len(c.Blocks))
	for b := range out {
		for i := range c.Blocks {
			if slices.Contains(c.Blocks[i].Next, b) {
				out[b] = append(out[b], i)
			}
		}
	}
	return out
}

// secondOver: of all that are over a block the one that all others of them are over.
func secondOver(c vcode.Code) []int {
	var out []int
	for b := range c.Blocks {
		var all []int
		for a := range c.Blocks {
			if b != 0 && isOver(c, a, b) {
				all = append(all, a)
			}
		}
		at := slices.IndexFunc(all, func(a int) bool {
			return !slices.ContainsFunc(all, func(other int) bool { return other != a && !isOver(c, other, a) })
		})
		if at < 0 {
			out = append(out, -1)
			continue
		}
		out = append(out, all[at])
	}
	return out
}

func secondLoops(c vcode.Code) []flow.Loop {
	var out []flow.Loop
	reached := from(c, 0, -1)
	for h := range c.Blocks {
		var begins []int
		for i, b := range c.Blocks {
			if reached[i] && slices.Contains(b.Next, h) && (i == h || isOver(c, h, i)) {
				begins = append(begins, i)
			}
		}
		if len(begins) == 0 {
			continue
		}
		l := flow.Loop{Head: h}
		for x := range c.Blocks {
			to := from(c, x, h)
			if x == h || slices.ContainsFunc(begins, func(b int) bool { return to[b] }) {
				l.Blocks = append(l.Blocks, x)
			}
		}
		out = append(out, l)
	}
	return out
}

func secondTrim(c vcode.Code) vcode.Code {
	out := vcode.Clone(c)
	out.Blocks = nil
	reached := from(c, 0, -1)
	for i, b := range vcode.Clone(c).Blocks {
		if !reached[i] {
			continue
		}
		for j, n := range b.Next {
			b.Next[j] = 0
			for k := range n {
				if reached[k] {
					b.Next[j]++
				}
			}
		}
		out.Blocks = append(out.Blocks, b)
	}
	return out
}

func endOf(b vcode.Block) *vcode.Ins { return &b.Ins[len(b.Ins)-1] }

func secondThread(c vcode.Code) vcode.Code {
	out := vcode.Clone(c)
	for _, b := range out.Blocks {
		for j, n := range b.Next {
			// It never ends just if a block comes twice.
			seen := map[int]bool{}
			at := n
			for len(c.Blocks[at].Ins) == 1 && endOf(c.Blocks[at]).Op == vcode.Jump && !seen[at] {
				seen[at] = true
				at = c.Blocks[at].Next[0]
			}
			if !seen[at] {
				b.Next[j] = at
			}
		}
	}
	for i := range out.Blocks {
		b := &out.Blocks[i]
		if e := endOf(*b); e.Op == vcode.Branch && b.Next[0] == b.Next[1] {
			*e = vcode.Ins{Op: vcode.Jump, Dst: -1}
			b.Next = b.Next[1:]
		}
	}
	return out
}

// secondJoin joins two blocks at a time, as long as there are two: those that stand furthest behind.
func secondJoin(c vcode.Code) vcode.Code {
	out := secondTrim(c)
	for {
		at := -1
		for i, b := range out.Blocks {
			if endOf(b).Op != vcode.Jump || b.Next[0] == i || b.Next[0] == 0 {
				continue
			}
			leads := 0
			for _, other := range out.Blocks {
				for _, n := range other.Next {
					if n == b.Next[0] {
						leads++
					}
				}
			}
			if leads == 1 {
				at = i
			}
		}
		if at < 0 {
			return secondTrim(out)
		}
		b := &out.Blocks[at]
		taken := &out.Blocks[b.Next[0]]
		b.Ins = append(slices.Clone(b.Ins[:len(b.Ins)-1]), taken.Ins...)
		b.Next = taken.Next
		// What was taken has nothing any more, and nothing leads to it.
		*taken = vcode.Block{Ins: []vcode.Ins{{Op: opcode.Unreachable, Dst: -1}}}
	}
}

// shaped is made code of a few blocks, of which many are one jump alone; some lead back, and some nothing leads to.
func shaped(k *sample.Maker) vcode.Code {
	many := 1 + k.Intn(9)
	c := vcode.Code{Regs: 2, Params: k.Intn(3), Result: true}
	for i := range many {
		b := vcode.Block{Depth: k.Intn(65)}
		for range sample.One(k, 0, 0, 0, 1, 2) {
			b.Ins = append(b.Ins, vcode.Ins{Op: opcode.Const64, Dst: k.Intn(2), N: int64(100*i + len(b.Ins))})
		}
		last := vcode.Ins{Op: sample.One[byte](k, vcode.Jump, vcode.Jump, vcode.Jump, vcode.Jump, vcode.Branch, vcode.Branch, vcode.Table, opcode.Return, opcode.Unreachable), Dst: -1}
		leads := map[byte]int{vcode.Jump: 1, vcode.Branch: 2, vcode.Table: 1 + k.Intn(5)}[last.Op]
		if last.Op != vcode.Jump && last.Op != opcode.Unreachable {
			last.Src = []int{k.Intn(2)}
		}
		for range leads {
			b.Next = append(b.Next, k.Intn(many))
		}
		b.Ins = append(b.Ins, last)
		c.Blocks = append(c.Blocks, b)
	}
	return c
}

// makerOf makes by numbers of a fixed row.
func makerOf(seed int64) *sample.Maker {
	return &sample.Maker{Intn: rand.New(rand.NewSource(seed)).Intn}
}

// everyCode hands on all code of so many blocks, each of which jumps alone or behind something, branches, or returns.
func everyCode(many int, visit func(c vcode.Code)) {
	c := vcode.Code{Regs: 1, Blocks: make([]vcode.Block, many)}
	var all func(at int)
	all = func(at int) {
		if at == many {
			visit(c)
			return
		}
		c.Blocks[at] = leading(at, nil)
		all(at + 1)
		for a := range many {
			c.Blocks[at] = leading(at, []int{a})
			all(at + 1)
			c.Blocks[at].Ins = c.Blocks[at].Ins[1:]
			all(at + 1)
			for b := range many {
				c.Blocks[at] = leading(at, []int{a, b})
				all(at + 1)
			}
		}
	}
	all(0)
}

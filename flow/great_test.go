package flow_test

import (
	"slices"
	"testing"

	"mandrel/flow"
	"mandrel/opcode"
	"mandrel/vcode"
)

// The greatest code that there is.

const most = vcode.MaxBlocks

// greatest is code of as many blocks as there may be, each of which leads where it is told to.
func greatest(next func(b int) []int) vcode.Code {
	c := vcode.Code{Regs: 1}
	for b := range most {
		c.Blocks = append(c.Blocks, leading(b, next(b)))
	}
	return c
}

// alone leaves nothing in blocks but their ends.
func alone(c vcode.Code) vcode.Code {
	for i := range c.Blocks {
		c.Blocks[i].Ins = c.Blocks[i].Ins[1:]
	}
	return c
}

// line leads to the next block.
func line(b int) []int {
	if b == most-1 {
		return nil
	}
	return []int{b + 1}
}

// upTo are the numbers from one on, up to another one.
func upTo(first, last int) []int {
	var out []int
	for i := first; i <= last; i++ {
		out = append(out, i)
	}
	return out
}

// wantWays holds Order, Over, and how many loops there are.
func wantWays(t *testing.T, what string, c vcode.Code, order, over []int, loops int) []flow.Loop {
	t.Helper()
	if got := must[[]int](t, what)(flow.Order(c)); !slices.Equal(got, order) {
		t.Errorf("%s: Order is not as it should be: it begins with %v", what, got[:min(9, len(got))])
	}
	if got := must[[]int](t, what)(flow.Over(c)); !slices.Equal(got, over) {
		t.Errorf("%s: Over is not as it should be: it begins with %v", what, got[:min(9, len(got))])
	}
	got := must[[]flow.Loop](t, what)(flow.Loops(c))
	if len(got) != loops {
		t.Errorf("%s: %d loops, want %d", what, len(got), loops)
	}
	return got
}

func TestGreatestLine(t *testing.T) {
	c := greatest(line)
	wantWays(t, "a line", c, upTo(0, most-1), upTo(-1, most-2), 0)
	wantMade(t, "Trim", c, vcode.Clone(c))
	wantMade(t, "Thread", c, vcode.Clone(c))
	joined := vcode.Code{Regs: 1, Blocks: make([]vcode.Block, 1)}
	for b := range most {
		joined.Blocks[0].Ins = append(joined.Blocks[0].Ins, vcode.Ins{Op: opcode.Const64, N: int64(b)})
	}
	joined.Blocks[0].Ins = append(joined.Blocks[0].Ins, vcode.Ins{Op: opcode.Return, Dst: -1})
	wantMade(t, "Join", c, joined)
	// As many instructions as there may be, too.
	for i := range c.Blocks {
		b := &c.Blocks[i]
		b.Ins = append(slices.Repeat(b.Ins[:1], 3), b.Ins[1])
	}
	got := must[vcode.Code](t, "Join")(flow.Join(c))
	if len(got.Blocks) != 1 || len(got.Blocks[0].Ins) != 3*most+1 {
		t.Errorf("%d blocks", len(got.Blocks))
	}
}

// TestGreatestJumps: one jump alone behind the other, and a ring of them.
func TestGreatestJumps(t *testing.T) {
	c := alone(greatest(line))
	want := vcode.Clone(c)
	for i := range most - 1 {
		want.Blocks[i].Next[0] = most - 1
	}
	wantMade(t, "Thread", c, want)
	wantMade(t, "Join", c, alone(ways("-")))
	ring := alone(greatest(func(b int) []int { return []int{(b + most - 1) % most} }))
	wantMade(t, "Thread", ring, vcode.Clone(ring))
	wantMade(t, "Join", ring, alone(ways("0")))
	loops := wantWays(t, "a ring", ring, append([]int{0}, down(most-1)...), append([]int{-1}, append(upTo(2, most-1), 0)...), 1)
	if len(loops) == 1 && (loops[0].Head != 0 || len(loops[0].Blocks) != most) {
		t.Errorf("a loop of %d blocks", len(loops[0].Blocks))
	}
	wantMade(t, "Trim", ring, vcode.Clone(ring))
}

// down are the numbers from one on down to 1.
func down(first int) []int {
	out := upTo(1, first)
	slices.Reverse(out)
	return out
}

// TestGreatestUnreached: none but block 0 can be reached.
func TestGreatestUnreached(t *testing.T) {
	c := greatest(func(b int) []int { return []int{b, (b + 1) % most}[:min(b, 2)] })
	over := slices.Repeat([]int{-1}, most)
	wantWays(t, "nothing", c, []int{0}, over, 0)
	for _, maker := range []string{"Trim", "Join"} {
		wantMade(t, maker, c, ways("-"))
	}
}

// TestGreatestTables: as many ways as there can be. All lead back but for one of each block.
func TestGreatestTables(t *testing.T) {
	c := greatest(func(b int) []int {
		if b == most-1 {
			return nil
		}
		next := []int{b + 1}
		for i := range 256 {
			next = append(next, max(0, b-i))
		}
		return next
	})
	loops := wantWays(t, "tables", c, upTo(0, most-1), upTo(-1, most-2), most-1)
	for i, l := range loops {
		if l.Head != i || len(l.Blocks) != most-1-i || l.Blocks[0] != i || l.Blocks[most-2-i] != most-2 {
			t.Fatalf("the loop %d has the head %d, and %d blocks", i, l.Head, len(l.Blocks))
		}
	}
	ahead := must[[][]int](t, "Ahead")(flow.Ahead(c))
	for b, l := range ahead {
		if want := upTo(max(0, b-1), min(most-2, b+255)); b > 0 && !slices.Equal(l, want) {
			t.Fatalf("%v are ahead of block %d, want %v", l, b, want)
		}
	}
	if len(ahead[0]) != 256 {
		t.Errorf("%d are ahead of block 0", len(ahead[0]))
	}
}

// TestGreatestCrossed: ways that cross again and again: a ladder up which one way goes, and down which another one does, so that none but block 0 is over any of the others.
func TestGreatestCrossed(t *testing.T) {
	c := greatest(func(b int) []int {
		switch b {
		case 0:
			return []int{1, most - 1}
		case 1:
			return []int{2}
		case most - 1:
			return []int{b - 1}
		}
		return []int{b + 1, b - 1}
	})
	wantWays(t, "a ladder", c, upTo(0, most-1), append([]int{-1}, make([]int, most-1)...), 0)
}

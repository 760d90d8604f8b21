package live_test

import (
	"slices"
	"testing"

	"mandrel/live"
	"mandrel/opcode"
	"mandrel/vcode"
)

// The greatest code that there is.

const (
	mostBlocks = vcode.MaxBlocks
	mostRegs   = vcode.MaxRegs
	mostIns    = 16384
)

// upTo are the numbers from one on, up to ahead of another one.
func upTo(first, end int) []int { return few(max(first, end))[first:] }

// wantAt holds what is needed at a begin.
func wantAt(t *testing.T, b int, got live.Set, want []int) {
	t.Helper()
	if l := got.List(); !slices.Equal(l, want) {
		t.Fatalf("at block %d %d registers are needed, want %d: %v", b, len(l), len(want), l[:min(9, len(l))])
	}
}

// TestGreatestRing: each of the first 1,024 blocks takes a register, each of the next ones gives one; with the blocks numbered both ways round.
func TestGreatestRing(t *testing.T) {
	for _, turned := range []bool{false, true} {
		block := func(place int) int {
			if turned {
				return mostBlocks - 1 - place
			}
			return place
		}
		c := vcode.Code{Regs: mostRegs, Blocks: make([]vcode.Block, mostBlocks)}
		for p := range mostBlocks {
			b := &c.Blocks[block(p)]
			switch p / mostRegs {
			case 0:
				b.Ins = []vcode.Ins{ins(opcode.GlobalSet, -1, p)}
			case 1:
				b.Ins = []vcode.Ins{ins(opcode.GlobalGet, p-mostRegs)}
			}
			b.Ins = append(b.Ins, ins(vcode.Jump, -1))
			b.Next = []int{block((p + 1) % mostBlocks)}
		}
		got := must[[]live.Set](t, "In")(live.In(c))
		for p := range mostBlocks {
			want := upTo(min(p, mostRegs), mostRegs)
			if p >= mostRegs {
				want = upTo(0, min(p-mostRegs, mostRegs))
			}
			wantAt(t, block(p), got[block(p)], want)
		}
		if n := must[int](t, "Most")(live.Most(c)); n != mostRegs {
			t.Errorf("Most is %d", n)
		}
		behind := must[[]live.Set](t, "Behind")(live.Behind(c, block(7)))
		wantSets(t, "Behind", behind, [][]int{upTo(8, mostRegs), upTo(8, mostRegs)})
	}
}

// TestGreatestTables: as many ways as there can be, to which each register comes by itself, out of a line that takes one after the other.
func TestGreatestTables(t *testing.T) {
	const tables = mostBlocks - mostRegs
	c := vcode.Code{Regs: mostRegs}
	for b := range mostBlocks {
		if b >= tables {
			next := min(b+1, mostBlocks-1)
			c.Blocks = append(c.Blocks, vcode.Block{Ins: []vcode.Ins{ins(opcode.GlobalSet, -1, b-tables), ins(vcode.Jump, -1)}, Next: []int{next}})
			continue
		}
		var next []int
		for i := range 257 {
			next = append(next, (b+i+1)%(tables+1))
		}
		c.Blocks = append(c.Blocks, vcode.Block{Ins: []vcode.Ins{ins(vcode.Table, -1, 0)}, Next: next})
	}
	got := must[[]live.Set](t, "In")(live.In(c))
	for b := range mostBlocks {
		wantAt(t, b, got[b], upTo(max(b-tables, 0), mostRegs))
	}
	if n := must[int](t, "Most")(live.Most(c)); n != mostRegs {
		t.Errorf("Most is %d", n)
	}
}

// TestGreatestBlock: one block of as many instructions as there may be, which leads to itself.
func TestGreatestBlock(t *testing.T) {
	c := vcode.Code{Regs: mostRegs, Blocks: make([]vcode.Block, 1)}
	l := make([]vcode.Ins, mostIns)
	for i := range l {
		l[i] = ins(vcode.Move, (i+1)%mostRegs, i%mostRegs)
	}
	l[mostIns-1] = ins(vcode.Jump, -1)
	c.Blocks[0] = vcode.Block{Ins: l, Next: []int{0}}
	behind := must[[]live.Set](t, "Behind")(live.Behind(c, 0))
	for i, s := range behind {
		// Each takes what the one ahead of it gave.
		want := []int{(i + 1) % mostRegs}
		// The first one takes what was given to register 0 at last, in the next round.
		if i >= mostIns-mostRegs-1 {
			want = slices.Compact([]int{0, (i + 1) % mostRegs})
		}
		if i >= mostIns-2 {
			want = []int{0}
		}
		if !slices.Equal(s.List(), want) {
			t.Fatalf("behind instruction %d %v, want %v", i, s.List(), want)
		}
	}
	if n := must[int](t, "Most")(live.Most(c)); n != 2 {
		t.Errorf("Most is %d", n)
	}
}

package live_test

import (
	"slices"
	"strconv"
	"testing"

	"mandrel/live"
	"mandrel/lower"
	"mandrel/opcode"
	"mandrel/sample"
	"mandrel/vcode"
)

// The chapter's words once more, as they stand there, whatever that costs.

// spot is a place of code: ahead of an instruction.
type spot struct{ block, ins int }

// following are the places to which the way goes on, over the instruction at a place.
func following(c vcode.Code, p spot) []spot {
	b := c.Blocks[p.block]
	if p.ins+1 < len(b.Ins) {
		return []spot{{p.block, p.ins + 1}}
	}
	var out []spot
	for _, n := range b.Next {
		out = append(out, spot{n, 0})
	}
	return out
}

// isNeeded goes all ways from some places on.
func isNeeded(c vcode.Code, r int, from []spot) bool {
	been := map[spot]bool{}
	for len(from) > 0 {
		p := from[0]
		from = from[1:]
		if been[p] {
			continue
		}
		been[p] = true
		in := c.Blocks[p.block].Ins[p.ins]
		if slices.Contains(in.Src, r) {
			return true
		}
		if in.Dst != r {
			from = append(from, following(c, p)...)
		}
	}
	return false
}

// secondAt are all registers that are needed at one of some places.
func secondAt(c vcode.Code, from []spot) []int {
	var out []int
	for r := range c.Regs {
		if isNeeded(c, r, from) {
			out = append(out, r)
		}
	}
	return out
}

// holdSecond holds In, Behind and Most against the second reading, and tells how many registers are needed at most.
func holdSecond(t *testing.T, what string, c vcode.Code) int {
	t.Helper()
	var in [][]int
	var behind [][][]int
	most := 0
	note := func(l []int) []int {
		most = max(most, len(l))
		return l
	}
	for b, block := range c.Blocks {
		in = append(in, note(secondAt(c, []spot{{b, 0}})))
		var l [][]int
		for i := range block.Ins {
			l = append(l, note(secondAt(c, following(c, spot{b, i}))))
		}
		behind = append(behind, l)
	}
	hold(t, what, c, in, behind, most)
	if t.Failed() {
		t.Fatalf("%s:\n%s", what, lay(c))
	}
	return most
}

// shaped is made code of a few blocks that are led into one another much, and of registers out of a pool; nothing of it is for a module but a global 0 that is Mut.
func shaped(k *sample.Maker, params, regs int, pool []int, result bool) vcode.Code {
	many := 1 + k.Intn(7)
	c := vcode.Code{Params: params, Regs: regs, Result: result}
	for range many {
		b := vcode.Block{Depth: k.Intn(65)}
		for range k.Intn(5) {
			b.Ins = append(b.Ins, shapedIns(k, pool))
		}
		shapedEnd(k, c, &b, many, pool)
		c.Blocks = append(c.Blocks, b)
	}
	return c
}

func shapedIns(k *sample.Maker, pool []int) vcode.Ins {
	in := ins(sample.One[byte](k, opcode.Const64, opcode.Const64, vcode.Move, vcode.Move, opcode.Select, opcode.GlobalGet, opcode.GlobalSet, 0x7c, 0x6a, 0x80, 0x6d, 0x50), sample.One(k, pool...))
	takes := map[byte]int{opcode.Const64: 0, vcode.Move: 1, opcode.Select: 3, opcode.GlobalGet: 0, opcode.GlobalSet: 1, 0x50: 1}
	n, ok := takes[in.Op]
	if !ok {
		n = 2
	}
	for range n {
		in.Src = append(in.Src, sample.One(k, pool...))
	}
	switch in.Op {
	case opcode.Const64:
		in.N = sample.One[int64](k, 0, 1, 2, -1, 1<<32)
	case opcode.GlobalSet:
		in.Dst = -1
	}
	return in
}

func shapedEnd(k *sample.Maker, c vcode.Code, b *vcode.Block, many int, pool []int) {
	end := ins(sample.One[byte](k, vcode.Jump, vcode.Jump, vcode.Branch, vcode.Branch, vcode.Branch, vcode.Table, opcode.Return, opcode.Unreachable), -1)
	if end.Op == vcode.Branch || end.Op == vcode.Table || end.Op == opcode.Return && c.Result {
		end.Src = []int{sample.One(k, pool...)}
	}
	for range map[byte]int{vcode.Jump: 1, vcode.Branch: 2, vcode.Table: 1 + k.Intn(4)}[end.Op] {
		b.Next = append(b.Next, k.Intn(many))
	}
	b.Ins = append(b.Ins, end)
}

// few are the first so many registers.
func few(many int) []int {
	var out []int
	for r := range many {
		out = append(out, r)
	}
	return out
}

// spread are shaped codes of many registers, a few of which are used.
func spread(k *sample.Maker, codes, most int) []vcode.Code {
	var out []vcode.Code
	for range codes {
		regs := 1 + k.Intn(most)
		pool := []int{regs - 1, 0}
		for range 5 {
			pool = append(pool, k.Intn(regs))
		}
		out = append(out, shaped(k, k.Intn(regs+1), regs, pool, k.Intn(2) == 0))
	}
	return out
}

func TestSecond(t *testing.T) {
	k := makerOf(16)
	var most [8]int
	for range 15_000 {
		regs := 1 + k.Intn(7)
		most[holdSecond(t, "shaped", shaped(k, k.Intn(regs+1), regs, few(regs), k.Intn(2) == 0))]++
	}
	for n, codes := range most {
		if codes < 200 {
			t.Errorf("of only %d codes %d registers are needed at most", codes, n)
		}
	}
}

func TestSecondOfManyRegisters(t *testing.T) {
	k := makerOf(17)
	for _, most := range []int{70, 200, 1024} {
		for i, c := range spread(k, 60, most) {
			holdSecond(t, "code "+strconv.Itoa(i)+" of up to "+strconv.Itoa(most)+" registers", c)
		}
	}
}

// TestSecondOfMade: made code of modules, with all kinds of instructions, and code of made bodies.
func TestSecondOfMade(t *testing.T) {
	k := makerOf(18)
	for i := range 300 {
		m := k.Module()
		l := k.Codes(m)
		if i%10 == 0 {
			l = must[[]vcode.Code](t, "All")(lower.All(m))
		}
		for _, c := range l {
			if vcode.Size(c) < 400 {
				holdSecond(t, "made", c)
			}
		}
	}
}

// TestBehindAndIn: behind an instruction there is what is ahead of the next; behind an end, what is at the begins of all its Next.
func TestBehindAndIn(t *testing.T) {
	k := makerOf(19)
	for range 3000 {
		c := shaped(k, 0, 6, few(6), false)
		begins := lists(must[[]live.Set](t, "In")(live.In(c)))
		for b, block := range c.Blocks {
			behind := lists(must[[]live.Set](t, "Behind")(live.Behind(c, b)))
			var all []int
			for _, n := range block.Next {
				all = append(all, begins[n]...)
			}
			slices.Sort(all)
			if last := len(behind) - 1; !slices.Equal(behind[last], slices.Compact(all)) {
				t.Fatalf("behind the end of block %d %v, want %v:\n%s", b, behind[last], all, lay(c))
			}
			for i, in := range block.Ins {
				ahead := slices.DeleteFunc(slices.Clone(behind[i]), func(r int) bool { return r == in.Dst })
				ahead = append(ahead, in.Src...)
				slices.Sort(ahead)
				want := begins[b]
				if i > 0 {
					want = behind[i-1]
				}
				if !slices.Equal(slices.Compact(ahead), want) {
					t.Fatalf("ahead of %v in block %d %v, want %v:\n%s", in, b, ahead, want, lay(c))
				}
			}
		}
	}
}

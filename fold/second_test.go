package fold_test

import (
	"maps"
	"slices"
	"testing"

	"mandrel/api"
	"mandrel/fold"
	"mandrel/num"
	"mandrel/opcode"
	"mandrel/sample"
	"mandrel/vcode"
)

// The chapter's words once more, each as it stands there, whatever that costs.

// reached are the blocks to which there is a way.
func reached(c vcode.Code) []bool {
	in := make([]bool, len(c.Blocks))
	in[0] = true
	for more := true; more; {
		more = false
		for i, b := range c.Blocks {
			for _, n := range b.Next {
				if in[i] && !in[n] {
					in[n], more = true, true
				}
			}
		}
	}
	return in
}

// ofLayer2 says whether an instruction is one of layer 2, and of how many operands.
func ofLayer2(op byte) int {
	switch {
	case op == 0x45, op == 0x50, 0x67 <= op && op <= 0x69, 0x79 <= op && op <= 0x7b, op == 0xa7, op == 0xac, op == 0xad:
		return 1
	case 0x46 <= op && op <= 0x4f, 0x51 <= op && op <= 0x5a, 0x6a <= op && op <= 0x78, 0x7c <= op && op <= 0x8a:
		return 2
	}
	return 0
}

// secondGives is what is known of what an instruction gives.
func secondGives(known map[int]uint64, in vcode.Ins) (uint64, bool) {
	var l []uint64
	all := true
	for _, r := range in.Src {
		v, ok := known[r]
		l = append(l, v)
		all = all && ok
	}
	switch many := ofLayer2(in.Op); {
	case in.Op == opcode.Const64:
		return uint64(in.N), true
	case in.Op == vcode.Move:
		return l[0], all
	case in.Op == opcode.Select:
		by, ok := known[in.Src[2]]
		if !ok {
			return 0, false
		}
		which := 1
		if by != 0 {
			which = 0
		}
		v, ok := known[in.Src[which]]
		return v, ok
	case many == 1 && all:
		v, err := num.One(in.Op, l[0])
		return v, err == nil
	case many == 2 && all:
		v, trap, err := num.Two(in.Op, l[0], l[1])
		return v, err == nil && trap == api.Well
	}
	return 0, false
}

// secondBehind is what is known behind an instruction, by what is known ahead of it.
func secondBehind(known map[int]uint64, in vcode.Ins) map[int]uint64 {
	out := maps.Clone(known)
	if in.Dst >= 0 {
		delete(out, in.Dst)
		if v, ok := secondGives(known, in); ok {
			out[in.Dst] = v
		}
	}
	return out
}

// both is what is known in two places, and is the same.
func both(a, b map[int]uint64) map[int]uint64 {
	out := maps.Clone(a)
	maps.DeleteFunc(out, func(r int, v uint64) bool {
		w, ok := b[r]
		return !ok || v != w
	})
	return out
}

// follows is what the rules ask to be known at a block's begin, if at the begins of all blocks so much is known; nil, if that is all and any.
func follows(c vcode.Code, in []bool, known []map[int]uint64, b int) map[int]uint64 {
	var out map[int]uint64
	if b == 0 {
		out = map[int]uint64{}
		for r := c.Params; r < c.Regs; r++ {
			out[r] = 0
		}
	}
	for i, ahead := range c.Blocks {
		if !in[i] || known[i] == nil || !slices.Contains(ahead.Next, b) {
			continue
		}
		end := known[i]
		for _, x := range ahead.Ins {
			end = secondBehind(end, x)
		}
		if out == nil {
			out = end
		} else {
			out = both(out, end)
		}
	}
	return out
}

// secondKnown goes over all blocks, the last one first, till the rules are kept everywhere; at first all and any is known.
func secondKnown(c vcode.Code) []map[int]uint64 {
	in := reached(c)
	known := make([]map[int]uint64, len(c.Blocks))
	for more := true; more; {
		more = false
		for b := len(c.Blocks) - 1; b >= 0; b-- {
			if !in[b] {
				continue
			}
			now := follows(c, in, known, b)
			if (now == nil) != (known[b] == nil) || !maps.Equal(now, known[b]) {
				known[b], more = now, true
			}
		}
	}
	return known
}

// secondFold: each block by itself.
func secondFold(c vcode.Code) vcode.Code {
	out := vcode.Clone(c)
	known := secondKnown(c)
	for b, is := range reached(c) {
		if is {
			secondBlock(&out.Blocks[b], c.Blocks[b].Ins, known[b])
		}
	}
	return out
}

func secondBlock(b *vcode.Block, l []vcode.Ins, known map[int]uint64) {
	p := passage{l: l}
	for i, in := range l {
		v, ok := secondGives(known, in)
		made := &b.Ins[i]
		by, byKnown := uint64(0), false
		if in.Op == vcode.Branch || in.Op == vcode.Table {
			by, byKnown = known[in.Src[0]]
		}
		switch {
		case in.Dst >= 0 && ok:
			*made = vcode.Ins{Op: opcode.Const64, Dst: in.Dst, N: int64(v)}
		case byKnown:
			next := b.Next[len(b.Next)-1]
			if in.Op == vcode.Branch && by != 0 {
				next = b.Next[0]
			} else if in.Op == vcode.Table && by%(1<<32) < uint64(len(b.Next)) {
				next = b.Next[by%(1<<32)]
			}
			*made = vcode.Ins{Op: vcode.Jump, Dst: -1}
			b.Next = []int{next}
		default:
			for j, r := range in.Src {
				made.Src[j] = p.first(r, i)
			}
		}
		p.idle = append(p.idle, p.moves(i) && p.first(in.Dst, i) == p.first(in.Src[0], i))
		known = secondBehind(known, in)
	}
}

// passage is a block's instructions as they were handed in; of each of them, up to one, whether it is a move to a register that has that already.
type passage struct {
	l    []vcode.Ins
	idle []bool
}

// moves says whether an instruction is a move, be its value known or not.
func (p *passage) moves(i int) bool { return p.l[i].Op == vcode.Move }

// anew says whether an instruction gives a register something that it has not.
func (p *passage) anew(r, i int) bool { return p.l[i].Dst == r && !p.idle[i] }

// first is the first register through which a register's value came by moves to the place ahead of an instruction, and that still has it.
func (p *passage) first(r, at int) int {
	out, here := r, r
	for i := at - 1; i >= 0; i-- {
		if !p.anew(here, i) {
			continue
		}
		if !p.moves(i) {
			break
		}
		here = p.l[i].Src[0]
		still := true
		for j := i; j < at; j++ {
			still = still && !p.anew(here, j)
		}
		if still {
			out = here
		}
	}
	return out
}

// wantSecond holds FO1 and FO2 of code against the second reading.
func wantSecond(t *testing.T, what string, c vcode.Code) {
	t.Helper()
	wantKnown(t, what, c, secondKnown(c))
	wantFold(t, what, c, secondFold(c))
	if t.Failed() {
		t.FailNow()
	}
}

// shaped is made code of a few blocks and registers, with much that is known, and many moves; nothing of it is for a module but a global 0 that is Mut, and one more.
func shaped(k *sample.Maker, params int, result bool) vcode.Code {
	many := 1 + k.Intn(6)
	c := vcode.Code{Params: params, Regs: params + 1 + k.Intn(4), Result: result}
	for range many {
		b := vcode.Block{Depth: k.Intn(65)}
		for range k.Intn(7) {
			b.Ins = append(b.Ins, shapedIns(k, c.Regs))
		}
		shapedEnd(k, c, &b, many)
		c.Blocks = append(c.Blocks, b)
	}
	return c
}

func shapedIns(k *sample.Maker, regs int) vcode.Ins {
	in := vcode.Ins{Op: sample.One[byte](k, opcode.Const64, opcode.Const64, vcode.Move, vcode.Move, vcode.Move, vcode.Move, opcode.Select, opcode.GlobalGet, opcode.GlobalSet, 0x7c, 0x7d, 0x6a, 0x7e, 0x80, 0x6d, 0x50, 0x47), Dst: k.Intn(regs)}
	takes := max(map[byte]int{vcode.Move: 1, opcode.Select: 3, opcode.GlobalSet: 1}[in.Op], ofLayer2(in.Op))
	for range takes {
		in.Src = append(in.Src, k.Intn(regs))
	}
	switch in.Op {
	case opcode.Const64:
		in.N = sample.One[int64](k, 0, 0, 1, 1, 2, -1, 1<<32)
	case opcode.GlobalSet:
		in.Dst = -1
	}
	return in
}

func shapedEnd(k *sample.Maker, c vcode.Code, b *vcode.Block, many int) {
	end := vcode.Ins{Op: sample.One[byte](k, vcode.Jump, vcode.Jump, vcode.Branch, vcode.Branch, vcode.Branch, vcode.Table, opcode.Return, opcode.Unreachable), Dst: -1}
	takes := map[byte]int{vcode.Branch: 1, vcode.Table: 1}[end.Op]
	if end.Op == opcode.Return && c.Result {
		takes = 1
	}
	for range takes {
		end.Src = append(end.Src, k.Intn(c.Regs))
	}
	for range map[byte]int{vcode.Jump: 1, vcode.Branch: 2, vcode.Table: 1 + k.Intn(4)}[end.Op] {
		b.Next = append(b.Next, k.Intn(many))
	}
	b.Ins = append(b.Ins, end)
}

func TestSecond(t *testing.T) {
	k := makerOf(15)
	changed, moved := 0, 0
	for range 40_000 {
		c := shaped(k, k.Intn(4), k.Intn(2) == 0)
		wantSecond(t, "shaped", c)
		made := must[vcode.Code](t, "shaped")(fold.Fold(c))
		if !vcode.Same(c, made) {
			changed++
		}
		moved += retold(c, made)
	}
	if changed < 20_000 || moved < 10_000 {
		t.Errorf("%d codes were changed, %d registers told by others", changed, moved)
	}
}

// retold counts registers that are told by others.
func retold(c, made vcode.Code) int {
	n := 0
	for i, b := range c.Blocks {
		for j, in := range b.Ins {
			if made.Blocks[i].Ins[j].Op != in.Op {
				continue
			}
			for s, r := range made.Blocks[i].Ins[j].Src {
				if r != in.Src[s] {
					n++
				}
			}
		}
	}
	return n
}

// TestSecondOfMade: made code of modules, too, with all kinds of instructions; and each block of it, over and over.
func TestSecondOfMade(t *testing.T) {
	k := makerOf(16)
	for range 800 {
		for _, c := range k.Codes(k.Module()) {
			wantSecond(t, "made", c)
		}
	}
}

// TestSecondOfLong: one block with many moves.
func TestSecondOfLong(t *testing.T) {
	k := makerOf(17)
	for range 600 {
		c := vcode.Code{Params: 4, Regs: 6, Blocks: make([]vcode.Block, 1)}
		b := &c.Blocks[0]
		for range 60 {
			in := shapedIns(k, c.Regs)
			if k.Intn(3) > 0 {
				in = vcode.Ins{Op: vcode.Move, Dst: k.Intn(c.Regs), Src: []int{k.Intn(c.Regs)}}
			}
			b.Ins = append(b.Ins, in)
		}
		shapedEnd(k, c, b, 1)
		wantSecond(t, "long", c)
	}
}

// TestGreatest: of all that could be known so that the rules are kept, Known is the one that has all others in it.
func TestGreatest(t *testing.T) {
	k := makerOf(18)
	others := 0
	for range 3000 {
		c := shaped(k, k.Intn(2), false)
		if c.Regs > 2 || len(c.Blocks) > 3 {
			continue
		}
		in := reached(c)
		got := must[[]map[int]uint64](t, "Known")(fold.Known(c))
		kept := 0
		everyKnown(c, in, got, func(known []map[int]uint64) {
			for b := range known {
				if in[b] && !maps.Equal(follows(c, in, known, b), known[b]) {
					return
				}
			}
			kept++
			for b := range known {
				if !maps.Equal(both(known[b], got[b]), known[b]) {
					t.Fatalf("at block %d of\n%v%v keeps the rules, and is not in %v", b, lay(c), known, got)
				}
			}
		})
		if kept == 0 {
			t.Fatalf("nothing keeps the rules, neither does %v, of\n%v", got, lay(c))
		}
		others += kept - 1
	}
	if others < 100 {
		t.Errorf("only %d others keep the rules", others)
	}
}

// everyKnown hands on all that could be known of a few values: those that are known by Known, and some more.
func everyKnown(c vcode.Code, in []bool, got []map[int]uint64, visit func([]map[int]uint64)) {
	values := []uint64{0, 1}
	for _, m := range got {
		for _, v := range m {
			if !slices.Contains(values, v) {
				values = append(values, v)
			}
		}
	}
	known := make([]map[int]uint64, len(c.Blocks))
	for b := range known {
		known[b] = map[int]uint64{}
	}
	var all func(at int)
	all = func(at int) {
		b := at / c.Regs
		if b == len(c.Blocks) {
			visit(known)
			return
		}
		r := at % c.Regs
		delete(known[b], r)
		all(at + 1)
		if !in[b] {
			return
		}
		for _, v := range values {
			known[b][r] = v
			all(at + 1)
		}
		delete(known[b], r)
	}
	all(0)
}

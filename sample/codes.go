package sample

import (
	"mandrel/api"
	"mandrel/opcode"
	"mandrel/shape"
	"mandrel/vcode"
)

// madeBlocks is how many blocks made code has at most, madeRegs how many registers beside its parameters, and madeSteps how many instructions there are in a block at most, but for its end, and for those that lay what others take.
const (
	madeBlocks = 6
	madeRegs   = 5
	madeSteps  = 6
)

// Codes are made code for each function of a module that has all that Bench has. What its registers hold is of both kinds: an instruction of I32 may find more than 32 bits.
func (k *Maker) Codes(m api.Module) []vcode.Code {
	k.m = m
	var out []vcode.Code
	for _, f := range m.Funcs {
		out = append(out, k.code(m.Types[f.Type]))
	}
	return out
}

func (k *Maker) code(t api.Type) vcode.Code {
	many := 1 + k.Intn(madeBlocks)
	c := vcode.Code{Params: len(t.Params), Regs: len(t.Params) + 1 + k.Intn(madeRegs), Result: t.Result != api.None}
	for i := range many {
		l := coded{regs: c.Regs}
		for range k.Intn(madeSteps + 1) {
			k.ins(&l)
		}
		next := k.end(&l, len(kinds(t.Result)), i, many)
		c.Blocks = append(c.Blocks, vcode.Block{Ins: l.list, Next: next, Depth: k.Intn(api.MaxNest + 1)})
	}
	return c
}

// coded is the instructions of a block that is being made.
type coded struct {
	list []vcode.Ins
	regs int
}

// put puts an instruction that takes some registers, and gives to one, or not.
func (k *Maker) put(l *coded, in vcode.Ins, gives bool, src ...int) {
	in.Src, in.Dst = src, -1
	if gives {
		in.Dst = k.Intn(l.regs)
	}
	l.list = append(l.list, in)
}

// some are so many registers, of which one may be there twice.
func (k *Maker) some(l *coded, n int) []int {
	out := make([]int, n)
	for i := range out {
		out[i] = k.Intn(l.regs)
	}
	return out
}

// laid is the register of a const that was put just now.
func (k *Maker) laid(l *coded, n int64) int {
	k.put(l, vcode.Ins{Op: opcode.Const64, N: n}, true)
	return l.list[len(l.list)-1].Dst
}

// ins puts an instruction that is no end.
func (k *Maker) ins(l *coded) {
	switch k.Intn(12) {
	case 0, 1:
		k.laid(l, One[int64](k, 0, 1, 2, 7, 33, -1, 4090, -1<<31, 1<<31, 1<<32, 1<<32+8, 1<<63-1, -1<<63))
	case 2:
		k.put(l, vcode.Ins{Op: vcode.Move}, true, k.some(l, 1)...)
	case 3:
		k.put(l, vcode.Ins{Op: opcode.Select}, true, k.some(l, 3)...)
	case 4:
		k.put(l, vcode.Ins{Op: opcode.GlobalGet, N: int64(k.Intn(len(k.m.Globals)))}, true)
	case 5:
		if g := k.Intn(len(k.m.Globals)); k.m.Globals[g].Mut {
			k.put(l, vcode.Ins{Op: opcode.GlobalSet, N: int64(g)}, false, k.some(l, 1)...)
		}
	case 6:
		k.virtualCall(l)
	default:
		k.virtualPlain(l)
	}
}

func (k *Maker) virtualCall(l *coded) {
	if k.Intn(2) == 0 {
		f := k.Intn(len(k.m.Funcs))
		t := k.m.Types[k.m.Funcs[f].Type]
		k.put(l, vcode.Ins{Op: opcode.Call, N: int64(f)}, t.Result != api.None, k.some(l, len(t.Params))...)
		return
	}
	// Mostly of the type that is there, and by a value that may have more than 32 bits.
	at := k.Intn(len(k.m.Funcs) + 1)
	typ := k.Intn(len(k.m.Types))
	if at < len(k.m.Funcs) && k.Intn(4) > 0 {
		typ = int(k.m.Funcs[at].Type)
	}
	t := k.m.Types[typ]
	place := k.laid(l, int64(at)+One[int64](k, 0, 0, 1<<32, -1<<32))
	src := append([]int{place}, k.some(l, len(t.Params))...)
	k.put(l, vcode.Ins{Op: opcode.CallIndirect, N: int64(typ)}, t.Result != api.None, src...)
}

// virtualPlain puts one of layer 4's instructions with a sign; a load's or store's address is mostly one that there is.
func (k *Maker) virtualPlain(l *coded) {
	// The one quotient that is none comes too seldom by itself.
	if k.Intn(100) == 0 {
		k.put(l, vcode.Ins{Op: opcode.FirstDiv32}, true, k.laid(l, -1<<31), k.laid(l, -1))
	}
	in, sign := k.withSign()
	src := k.some(l, len(sign.Params))
	// What registers hold is mostly far too much to grow by.
	if in.Op == opcode.MemoryGrow && k.Intn(4) > 0 {
		src[0] = k.laid(l, One[int64](k, 0, 1, 1, 2, 9)+One[int64](k, 0, 1<<32, -1<<32))
	}
	if shape.Accesses(in.Op) && k.Intn(4) > 0 {
		in.Offset %= 8
		src[0] = k.laid(l, One[int64](k, 0, 8, 13, 4000, 1<<32+40))
	}
	k.put(l, vcode.Ins{Op: in.Op, Offset: in.Offset}, sign.Result != api.None, src...)
}

// end puts one, and is the blocks that follow; the code gives so many values.
func (k *Maker) end(l *coded, gives, at, many int) []int {
	op := One[byte](k, opcode.Return, vcode.Jump, vcode.Jump, vcode.Branch, vcode.Branch, vcode.Table, vcode.Table)
	if at == many-1 && k.Intn(3) > 0 {
		op = opcode.Return
	}
	if k.Intn(30) == 0 {
		op = opcode.Unreachable
	}
	takes, leads := 0, 0
	switch op {
	case opcode.Return:
		takes = gives
	case vcode.Jump:
		leads = 1
	case vcode.Branch:
		takes, leads = 1, 2
	case vcode.Table:
		takes, leads = 1, 1+k.Intn(5)
	}
	k.put(l, vcode.Ins{Op: op}, false, k.some(l, takes)...)
	return k.next(leads, at, many)
}

// next is so many blocks of all there are, behind one of them: mostly later ones, so that much of the code ends.
func (k *Maker) next(n, at, many int) []int {
	out := make([]int, n)
	for i := range out {
		out[i] = k.Intn(many)
		if later := many - at - 1; later > 0 && k.Intn(4) > 0 {
			out[i] = at + 1 + k.Intn(later)
		}
	}
	return out
}

package lower

import (
	"slices"

	"mandrel/api"
	"mandrel/opcode"
	"mandrel/ops"
	"mandrel/shape"
	"mandrel/vcode"
)

// nowhere is told in the place of a block where there is none.
const nowhere = -1

// walk goes over a body that may run, and lays its code. What can't be come to is left out: for its values there need not be registers.
type walk struct {
	module api.Module
	locals int // the first of the registers that are places of the stack
	gives  int // how many values the body gives
	height int // how many values stand on the stack
	depth  int // how many loops stand about
	labels []label
	blocks []vcode.Block
	at     int // the block that is being laid; nowhere, if what comes next can't be come to
}

// label is where a branch goes; the body's is the first one, the innermost one the last.
type label struct {
	block  int // nowhere, till something leads to it
	height int // how many values stand beneath what is handed on
	hands  int // how many values are handed on
	depth  int // how many loops stand about the block
}

// body lays all code of a body.
func (w *walk) body(l []api.Instr, result api.Kind) {
	w.gives = many(result)
	w.begin(w.newBlock())
	w.open(result)
	w.list(l)
	if w.at != nowhere {
		w.leave()
	}
	w.close()
	if w.at != nowhere {
		w.leave()
	}
}

func (w *walk) list(l []api.Instr) {
	for i := range l {
		if w.at == nowhere {
			return
		}
		w.instr(&l[i])
	}
}

func (w *walk) instr(in *api.Instr) {
	switch in.Op {
	case opcode.Unreachable:
		w.end(opcode.Unreachable, nil)
	case opcode.Block:
		w.open(in.Result)
		w.list(in.Body)
		w.close()
	case opcode.Loop:
		w.loop(in)
	case opcode.If:
		w.ifElse(in)
	case opcode.Br:
		w.branch(w.label(in.N))
	case opcode.BrIf:
		w.branchIf(w.label(in.N))
	case opcode.BrTable:
		w.branchTable(in.Labels)
	case opcode.Return:
		w.leave()
	default:
		w.straight(in)
	}
}

// straight lays an instruction behind which the next one comes.
func (w *walk) straight(in *api.Instr) {
	n := in.N
	switch in.Op {
	case opcode.Nop:
	case opcode.Drop:
		w.take(1)
	case opcode.LocalGet:
		w.put(vcode.Ins{Op: vcode.Move, Src: []int{int(n)}, Dst: w.lay(1)})
	case opcode.LocalSet:
		w.put(vcode.Ins{Op: vcode.Move, Src: w.take(1), Dst: int(n)})
	case opcode.LocalTee:
		w.put(vcode.Ins{Op: vcode.Move, Src: w.top(1), Dst: int(n)})
	case opcode.GlobalGet:
		w.apply(vcode.Ins{Op: in.Op, N: n}, 0, 1)
	case opcode.GlobalSet:
		w.apply(vcode.Ins{Op: in.Op, N: n}, 1, 0)
	case opcode.Select:
		w.apply(vcode.Ins{Op: in.Op}, 3, 1)
	case opcode.Call:
		// It is there, as all that a body names is.
		t, _ := shape.Type(w.module, n)
		w.apply(vcode.Ins{Op: in.Op, N: n}, len(t.Params), many(t.Result))
	case opcode.CallIndirect:
		w.callIndirect(n)
	case opcode.Const32:
		n = int64(uint32(n))
		fallthrough
	case opcode.Const64:
		w.apply(vcode.Ins{Op: opcode.Const64, N: n}, 0, 1)
	default:
		w.bySign(in)
	}
}

// callIndirect: the place in the table stands above the arguments, and is taken ahead of them.
func (w *walk) callIndirect(typ int64) {
	t := w.module.Types[typ]
	place := w.take(1)
	src := slices.Concat(place, w.take(len(t.Params)))
	w.put(vcode.Ins{Op: opcode.CallIndirect, N: typ, Src: src, Dst: w.lay(many(t.Result))})
}

// bySign lays an instruction that is the same over registers, but for where what it takes and gives stands.
func (w *walk) bySign(in *api.Instr) {
	out := vcode.Ins{Op: in.Op}
	// A body may run whatever stands in the fields that an instruction has no use for.
	if shape.Accesses(in.Op) {
		out.Offset = in.Offset
	}
	// No error: what may run, and is none of all others, has a sign.
	t, _ := ops.Sign(in.Op)
	w.apply(out, len(t.Params), many(t.Result))
}

// many is how many values there are of a kind that may be None.
func many(k api.Kind) int {
	if k == api.None {
		return 0
	}
	return 1
}

// top are the registers of the uppermost values, the lowest one first.
func (w *walk) top(n int) []int {
	out := make([]int, n)
	for i := range out {
		out[i] = w.locals + w.height - n + i
	}
	return out
}

// take takes the uppermost values, and tells their registers.
func (w *walk) take(n int) []int {
	out := w.top(n)
	w.height -= n
	return out
}

// lay lays a value, and tells its register; or none, which has no register.
func (w *walk) lay(n int) int {
	if n == 0 {
		return -1
	}
	w.height++
	return w.top(1)[0]
}

// apply lays an instruction that takes so many of the uppermost values, and gives one or none.
func (w *walk) apply(in vcode.Ins, takes, gives int) {
	in.Src = w.take(takes)
	in.Dst = w.lay(gives)
	w.put(in)
}

func (w *walk) put(in vcode.Ins) {
	b := &w.blocks[w.at]
	b.Ins = append(b.Ins, in)
}

// end ends the block that is being laid.
func (w *walk) end(op byte, src []int, next ...int) {
	w.put(vcode.Ins{Op: op, Dst: -1, Src: src})
	w.blocks[w.at].Next = next
	w.at = nowhere
}

// newBlock is a block within all loops that stand about.
func (w *walk) newBlock() int {
	w.blocks = append(w.blocks, vcode.Block{Depth: toldDepth(w.depth)})
	return len(w.blocks) - 1
}

// toldDepth is how many loops a block tells of: a body may have more of them in one another than code has.
func toldDepth(loops int) int { return min(loops, api.MaxNest) }

func (w *walk) begin(block int) { w.at = block }

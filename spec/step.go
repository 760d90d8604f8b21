package spec

import (
	"mandrel/api"
	"mandrel/inst"
	"mandrel/num"
	"mandrel/opcode"
	"mandrel/ops"
)

// step does an instruction. That it may be there, and finds what it takes, was looked at when the machine was made.
func (r *run) step(in *api.Instr) api.Trap {
	switch in.Op {
	case opcode.Unreachable:
		return api.Unreachable
	case opcode.Block:
		r.open(in, in.Body, false)
	case opcode.Loop:
		r.open(in, in.Body, true)
	case opcode.If:
		list := in.Else
		if r.take() != 0 {
			list = in.Body
		}
		r.open(in, list, false)
	case opcode.Br:
		r.branch(in.N)
	case opcode.BrIf:
		if r.take() != 0 {
			r.branch(in.N)
		}
	case opcode.BrTable:
		r.branch(labelOf(in.Labels, r.take()))
	case opcode.Return:
		r.leave(r.innermostCall().body)
	case opcode.Call:
		return r.enter(int(in.N))
	case opcode.CallIndirect:
		return r.callIndirect(in.N)
	default:
		return r.straight(in)
	}
	return api.Well
}

// labelOf is the label of a value's number, the last one where there are not so many.
func labelOf(labels []uint32, v uint64) int64 {
	return int64(labels[min(v, uint64(len(labels)-1))])
}

func (r *run) callIndirect(typ int64) api.Trap {
	// No error: there is a state, and the type is there.
	f, trap, _ := inst.Pick(r.module, r.state, typ, r.take())
	if trap != api.Well {
		return trap
	}
	return r.enter(f)
}

// straight does an instruction behind which the next one comes.
func (r *run) straight(in *api.Instr) api.Trap {
	switch in.Op {
	case opcode.Nop:
	case opcode.Drop:
		r.take()
	case opcode.Select:
		r.selectOne()
	case opcode.LocalGet:
		r.lay(r.locals()[in.N])
	case opcode.LocalSet:
		r.locals()[in.N] = r.take()
	case opcode.LocalTee:
		r.locals()[in.N] = r.top()
	case opcode.GlobalGet:
		r.lay(r.global(in.N))
	case opcode.GlobalSet:
		r.setGlobal(in.N, r.take())
	case opcode.MemorySize:
		r.lay(uint64(r.state.Mem.Pages()))
	case opcode.MemoryGrow:
		r.lay(r.grown(r.take()))
	default:
		return r.byForm(in)
	}
	return api.Well
}

// grown is what memory.grow gives. It takes an I32: of a value that has more, as whoever was handed the state may lay one into a global, the upper 32 bits ask for no page.
func (r *run) grown(more uint64) uint64 {
	before := r.state.Mem.Grow(uint64(uint32(more)))
	return uint64(uint32(before))
}

// byForm does a const, a load or store, or an instruction of numbers.
func (r *run) byForm(in *api.Instr) api.Trap {
	// No error: what may run is an instruction.
	form, _ := ops.Form(in.Op)
	switch form {
	case ops.Const32:
		r.lay(uint64(uint32(in.N)))
	case ops.Const64:
		r.lay(uint64(in.N))
	case ops.Address:
		return r.access(in)
	default:
		return r.reckon(in.Op)
	}
	return api.Well
}

func (r *run) selectOne() {
	c, b := r.take(), r.take()
	if c == 0 {
		r.take()
		r.lay(b)
	}
}

func (r *run) access(in *api.Instr) api.Trap {
	last := r.take()
	v, trap, err := inst.Load(r.state.Mem, in.Op, last, in.Offset)
	if err == nil {
		r.lay(v)
		return trap
	}
	// No error: what is no load is a store.
	trap, _ = inst.Store(r.state.Mem, in.Op, r.take(), in.Offset, last)
	return trap
}

func (r *run) reckon(op byte) api.Trap {
	last := r.take()
	if v, err := num.One(op, last); err == nil {
		r.lay(v)
		return api.Well
	}
	// No error: what is not of one operand is of two.
	v, trap, _ := num.Two(op, r.take(), last)
	r.lay(v)
	return trap
}

// locals are the innermost call's, and what stands behind them.
func (r *run) locals() []uint64 { return r.values[r.innermostCall().locals:] }

// global is the value of one; 0, if whoever was handed the state left fewer than there were.
func (r *run) global(n int64) uint64 {
	if n >= int64(len(r.state.Globals)) {
		return 0
	}
	return r.state.Globals[n]
}

func (r *run) setGlobal(n int64, v uint64) {
	if n < int64(len(r.state.Globals)) {
		r.state.Globals[n] = v
	}
}

func (r *run) lay(v uint64) { r.values = append(r.values, v) }

func (r *run) top() uint64 { return r.values[len(r.values)-1] }

func (r *run) take() uint64 {
	v := r.top()
	r.values = r.values[:len(r.values)-1]
	return v
}

package vrun

import (
	"mandrel/api"
	"mandrel/inst"
	"mandrel/num"
	"mandrel/opcode"
	"mandrel/shape"
	"mandrel/vcode"
)

// step does an instruction that is no end, and is what it gives; 0, if that is nothing. That it may be there was looked at when the machine was made.
func (c *call) step(in *vcode.Ins) (uint64, api.Trap) {
	switch in.Op {
	case opcode.Const64:
		return uint64(in.N), api.Well
	case vcode.Move:
		return c.taken(in, 0), api.Well
	case opcode.Select:
		return c.selected(in), api.Well
	case opcode.GlobalGet:
		return c.global(in.N), api.Well
	case opcode.GlobalSet:
		c.setGlobal(in.N, c.taken(in, 0))
		return 0, api.Well
	case opcode.MemorySize:
		return uint64(c.state.Mem.Pages()), api.Well
	case opcode.MemoryGrow:
		return c.grown(c.taken(in, 0)), api.Well
	case opcode.Call:
		return c.enter(int(in.N), c.values(in.Src))
	case opcode.CallIndirect:
		return c.callIndirect(in)
	}
	if shape.Accesses(in.Op) {
		return c.access(in)
	}
	return c.reckon(in)
}

func (c *call) selected(in *vcode.Ins) uint64 {
	if c.taken(in, 2) != 0 {
		return c.taken(in, 0)
	}
	return c.taken(in, 1)
}

// global is the value of one; 0, if whoever was handed the state left fewer than there were.
func (c *call) global(n int64) uint64 {
	if n >= int64(len(c.state.Globals)) {
		return 0
	}
	return c.state.Globals[n]
}

func (c *call) setGlobal(n int64, v uint64) {
	if n < int64(len(c.state.Globals)) {
		c.state.Globals[n] = v
	}
}

// grown is what memory.grow gives. It takes an I32: of a register that holds more the upper 32 bits ask for no page.
func (c *call) grown(more uint64) uint64 {
	before := c.state.Mem.Grow(uint64(uint32(more)))
	return uint64(uint32(before))
}

func (c *call) callIndirect(in *vcode.Ins) (uint64, api.Trap) {
	args := c.values(in.Src)
	// No error: there is a state, and the type is there.
	f, trap, _ := inst.Pick(c.module, c.state, in.N, args[0])
	if trap != api.Well {
		return 0, trap
	}
	return c.enter(f, args[1:])
}

// values are those of registers, in their order.
func (c *call) values(l []int) []uint64 {
	out := make([]uint64, len(l))
	for i, r := range l {
		out[i] = c.regs[r]
	}
	return out
}

// access does a load or a store: of these only a load gives. There is no error: it is one of both.
func (c *call) access(in *vcode.Ins) (uint64, api.Trap) {
	if in.Dst == nowhere {
		trap, _ := inst.Store(c.state.Mem, in.Op, c.taken(in, 0), in.Offset, c.taken(in, 1))
		return 0, trap
	}
	v, trap, _ := inst.Load(c.state.Mem, in.Op, c.taken(in, 0), in.Offset)
	return v, trap
}

// reckon does an instruction of numbers. There is no error: it takes as many registers as it has operands.
func (c *call) reckon(in *vcode.Ins) (uint64, api.Trap) {
	if len(in.Src) == 1 {
		v, _ := num.One(in.Op, c.taken(in, 0))
		return v, api.Well
	}
	v, trap, _ := num.Two(in.Op, c.taken(in, 0), c.taken(in, 1))
	return v, trap
}

package vrun

import (
	"mandrel/api"
	"mandrel/opcode"
	"mandrel/vcode"
)

// run is what goes on: a call from outside, and all calls within it.
type run struct {
	*Machine
	fuel  int
	used  int
	depth int // how many calls stand in one another
}

// call is a function that is being done.
type call struct {
	*run
	regs []uint64
}

// enter does a function, and is what that gives; 0, if it gives nothing. Calls stand in one another as Go's do: there is room, as they are MaxDepth at most.
func (r *run) enter(f int, args []uint64) (uint64, api.Trap) {
	if r.depth == api.MaxDepth {
		return 0, api.Depth
	}
	code := &r.codes[f]
	c := call{run: r, regs: make([]uint64, code.Regs)}
	copy(c.regs, args)
	r.depth++
	v, trap := c.blocks(code.Blocks)
	r.depth--
	return v, trap
}

// blocks does block after block, from the first one on, up to one that leads to none.
func (c *call) blocks(l []vcode.Block) (uint64, api.Trap) {
	at := 0
	for {
		b := &l[at]
		last := len(b.Ins) - 1
		if trap := c.straight(b.Ins[:last]); trap != api.Well {
			return 0, trap
		}
		if !c.mayStep() {
			return 0, api.Fuel
		}
		end := &b.Ins[last]
		switch end.Op {
		case opcode.Unreachable:
			return 0, api.Unreachable
		case opcode.Return:
			return c.returned(end), api.Well
		}
		at = b.Next[c.way(end, len(b.Next))]
	}
}

// straight does instructions that are no ends, one behind another.
func (c *call) straight(l []vcode.Ins) api.Trap {
	for i := range l {
		if !c.mayStep() {
			return api.Fuel
		}
		in := &l[i]
		v, trap := c.step(in)
		if trap != api.Well {
			return trap
		}
		if in.Dst != nowhere {
			c.regs[in.Dst] = v
		}
	}
	return api.Well
}

// nowhere is the Dst of an instruction that gives nothing.
const nowhere = -1

// mayStep counts a step, if there is fuel for it.
func (r *run) mayStep() bool {
	if r.used == r.fuel {
		return false
	}
	r.used++
	return true
}

func (c *call) returned(end *vcode.Ins) uint64 {
	if len(end.Src) == 0 {
		return 0
	}
	return c.taken(end, 0)
}

// way is which one of so many blocks a jump, a branch or a table leads to.
func (c *call) way(end *vcode.Ins, many int) uint64 {
	switch end.Op {
	case vcode.Branch:
		if c.taken(end, 0) == 0 {
			return 1
		}
	case vcode.Table:
		return min(uint64(uint32(c.taken(end, 0))), uint64(many-1))
	}
	return 0
}

// taken is the value of the i-th register that an instruction takes.
func (c *call) taken(in *vcode.Ins, i int) uint64 { return c.regs[in.Src[i]] }

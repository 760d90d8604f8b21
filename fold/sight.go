package fold

import (
	"maps"

	"mandrel/api"
	"mandrel/num"
	"mandrel/opcode"
	"mandrel/vcode"
)

// fact is what is known of a register: its value, or nothing.
type fact struct {
	value uint64
	known bool
}

// sight is what is known at a place within a block. Blocks are short, and registers many: what is known at the begin is not copied for each.
type sight struct {
	begin map[int]uint64 // what is known at the block's begin
	since map[int]fact   // of all registers that were given since then
}

func sightFrom(begin map[int]uint64) sight { return sight{begin, map[int]fact{}} }

// of is what is known of a register.
func (s sight) of(r int) fact {
	if f, ok := s.since[r]; ok {
		return f
	}
	v, ok := s.begin[r]
	return fact{v, ok}
}

// all are all registers that are known, in memory of its own.
func (s sight) all() map[int]uint64 {
	out := maps.Clone(s.begin)
	for r, f := range s.since {
		if f.known {
			out[r] = f.value
		} else {
			delete(out, r)
		}
	}
	return out
}

// gives is what is known of what an instruction gives.
func (s sight) gives(in vcode.Ins) fact {
	switch in.Op {
	case opcode.Const64:
		return fact{uint64(in.N), true}
	case vcode.Move:
		return s.of(in.Src[0])
	case opcode.Select:
		return s.selected(in)
	}
	return s.reckoned(in)
}

func (s sight) selected(in vcode.Ins) fact {
	c := s.of(in.Src[2])
	switch {
	case !c.known:
		return fact{}
	case c.value != 0:
		return s.of(in.Src[0])
	}
	return s.of(in.Src[1])
}

// reckoned is what comes of an instruction of layer 2: that layer knows its own, and tells of all others an error.
func (s sight) reckoned(in vcode.Ins) fact {
	switch len(in.Src) {
	case 1:
		if x := s.of(in.Src[0]); x.known {
			v, err := num.One(in.Op, x.value)
			return fact{v, err == nil}
		}
	case 2:
		x, y := s.of(in.Src[0]), s.of(in.Src[1])
		if x.known && y.known {
			v, trap, err := num.Two(in.Op, x.value, y.value)
			return fact{v, err == nil && trap == api.Well}
		}
	}
	return fact{}
}

// chosenBy is the value by which an end chooses a way, if it is one that chooses, and that is known.
func (s sight) chosenBy(end vcode.Ins) (uint64, bool) {
	if end.Op != vcode.Branch && end.Op != vcode.Table {
		return 0, false
	}
	f := s.of(end.Src[0])
	return f.value, f.known
}

// Package shape tells how instructions stand in code of registers: how many registers one takes, whether it gives, which numbers it has, and which of them are for a module.
package shape

import (
	"mandrel/api"
	"mandrel/opcode"
	"mandrel/ops"
)

// Ins is an instruction of code of registers; those of the layers are the same but for their name.
type Ins struct {
	Op     byte
	Dst    int
	Src    []int
	N      int64
	Offset uint32
}

// shape is how many registers an instruction takes, and whether it gives.
type shape struct {
	takes  int
	more   bool // it may take more than that, too
	gives  bool
	either bool // it may give, or not
}

// of is an instruction's shape, if it is one of such code. result tells whether the code gives a value.
func of(op byte, result bool) (shape, bool) {
	switch op {
	case opcode.Const32:
		// Such code has one const for both kinds: that of 64 bits.
		return shape{}, false
	case opcode.Move:
		return shape{takes: 1, gives: true}, true
	case opcode.Select:
		return shape{takes: 3, gives: true}, true
	case opcode.GlobalGet:
		return shape{gives: true}, true
	case opcode.GlobalSet, opcode.Branch, opcode.Table:
		return shape{takes: 1}, true
	case opcode.Call:
		return shape{more: true, either: true}, true
	case opcode.CallIndirect:
		return shape{takes: 1, more: true, either: true}, true
	case opcode.Jump, opcode.Unreachable:
		return shape{}, true
	case opcode.Return:
		if result {
			return shape{takes: 1}, true
		}
		return shape{}, true
	}
	sign, err := ops.Sign(op)
	if err != nil {
		return shape{}, false
	}
	return shape{takes: len(sign.Params), gives: sign.Result != api.None}, true
}

// May tells whether an instruction may be, in code that gives a value if result, but for which registers it has.
func May(in Ins, result bool) bool {
	s, ok := of(in.Op, result)
	if !ok {
		return false
	}
	if len(in.Src) < s.takes || len(in.Src) > s.takes && !s.more {
		return false
	}
	if !s.either && s.gives != Gives(in) {
		return false
	}
	if in.Offset != 0 && !Accesses(in.Op) {
		return false
	}
	return numberMay(in)
}

// Gives tells whether an instruction gives to a register.
func Gives(in Ins) bool { return in.Dst != -1 }

func numberMay(in Ins) bool {
	switch {
	case in.Op == opcode.Const64:
		return true
	case Numbered(in.Op):
		return in.N >= 0
	}
	return in.N == 0
}

// Numbered tells whether an instruction has a use for N.
func Numbered(op byte) bool {
	switch op {
	case opcode.Const64, opcode.GlobalGet, opcode.GlobalSet, opcode.Call, opcode.CallIndirect:
		return true
	}
	return false
}

// Accesses tells whether an instruction is a load or a store.
func Accesses(op byte) bool {
	form, err := ops.Form(op)
	return err == nil && form == ops.Address
}

// Ends tells whether an instruction is an end of a block.
func Ends(op byte) bool {
	switch op {
	case opcode.Unreachable, opcode.Return, opcode.Jump, opcode.Branch, opcode.Table:
		return true
	}
	return false
}

// Leads tells whether an end may lead to so many blocks.
func Leads(op byte, blocks int) bool {
	switch op {
	case opcode.Jump:
		return blocks == 1
	case opcode.Branch:
		return blocks == 2
	case opcode.Table:
		return 1 <= blocks && blocks <= mostOfTable
	}
	return blocks == 0
}

// mostOfTable: a br_table has 256 labels and another one at most.
const mostOfTable = 257

// Name is an instruction's in such code.
func Name(op byte) string {
	switch op {
	case opcode.Const64:
		return "const"
	case opcode.Move:
		return "move"
	case opcode.Jump:
		return "jump"
	case opcode.Branch:
		return "branch"
	case opcode.Table:
		return "table"
	}
	return ops.Name(op)
}

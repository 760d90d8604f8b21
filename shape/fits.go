package shape

import (
	"mandrel/api"
	"mandrel/opcode"
)

// Type is that of a function of a module, if both are there.
func Type(m api.Module, f int64) (api.Type, bool) {
	if f < 0 || f >= int64(len(m.Funcs)) {
		return api.Type{}, false
	}
	return typeAt(m, int64(m.Funcs[f].Type))
}

func typeAt(m api.Module, i int64) (api.Type, bool) {
	if i < 0 || i >= int64(len(m.Types)) {
		return api.Type{}, false
	}
	return m.Types[i], true
}

// Fits tells whether an instruction that may be is one for a module.
func Fits(m api.Module, in Ins) bool {
	switch in.Op {
	case opcode.MemorySize, opcode.MemoryGrow:
		return len(m.Memories) > 0
	case opcode.GlobalGet:
		return globalThere(m, in.N)
	case opcode.GlobalSet:
		return globalThere(m, in.N) && m.Globals[in.N].Mut
	case opcode.Call:
		t, ok := Type(m, in.N)
		return ok && calls(t, in, 0)
	case opcode.CallIndirect:
		t, ok := typeAt(m, in.N)
		return ok && len(m.Tables) > 0 && calls(t, in, 1)
	}
	return !Accesses(in.Op) || len(m.Memories) > 0
}

func globalThere(m api.Module, i int64) bool {
	return 0 <= i && i < int64(len(m.Globals))
}

// calls tells whether a call has as many registers as a type asks for, beside those that stand ahead of them, and gives just if the type does.
func calls(t api.Type, in Ins, ahead int) bool {
	return len(in.Src) == ahead+len(t.Params) && Gives(in) == (t.Result != api.None)
}

package opcode_test

import (
	"testing"

	"mandrel/opcode"
	"mandrel/ops"
)

// TestNumbers: each is the number that layer 4 has of that name.
func TestNumbers(t *testing.T) {
	for op, name := range map[byte]string{
		opcode.Unreachable:  "unreachable",
		opcode.Nop:          "nop",
		opcode.Block:        "block",
		opcode.Loop:         "loop",
		opcode.If:           "if",
		opcode.Br:           "br",
		opcode.BrIf:         "br_if",
		opcode.BrTable:      "br_table",
		opcode.Return:       "return",
		opcode.Call:         "call",
		opcode.CallIndirect: "call_indirect",
		opcode.Drop:         "drop",
		opcode.Select:       "select",
		opcode.LocalGet:     "local.get",
		opcode.LocalSet:     "local.set",
		opcode.LocalTee:     "local.tee",
		opcode.GlobalGet:    "global.get",
		opcode.GlobalSet:    "global.set",
		opcode.MemorySize:   "memory.size",
		opcode.MemoryGrow:   "memory.grow",
		opcode.Const32:      "i32.const",
		opcode.Const64:      "i64.const",
		opcode.FirstDiv32:   "i32.div_s",
		opcode.LastRem32:    "i32.rem_u",
		opcode.FirstDiv64:   "i64.div_s",
		opcode.LastRem64:    "i64.rem_u",
	} {
		if got := ops.Name(op); got != name {
			t.Errorf("%#x is %s, want %s", op, got, name)
		}
	}
}

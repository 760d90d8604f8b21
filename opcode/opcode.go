// Package opcode has the numbers of the instructions that layers tell apart one by one: those whose doing hangs on more than the values that they take.
package opcode

// The numbers, as chapter 4 has them.
const (
	Unreachable  = 0x00
	Nop          = 0x01
	Block        = 0x02
	Loop         = 0x03
	If           = 0x04
	Br           = 0x0c
	BrIf         = 0x0d
	BrTable      = 0x0e
	Return       = 0x0f
	Call         = 0x10
	CallIndirect = 0x11
	Drop         = 0x1a
	Select       = 0x1b
	LocalGet     = 0x20
	LocalSet     = 0x21
	LocalTee     = 0x22
	GlobalGet    = 0x23
	GlobalSet    = 0x24
	MemorySize   = 0x3f
	MemoryGrow   = 0x40
	Const32      = 0x41
	Const64      = 0x42
	FirstDiv32   = 0x6d // the first and the last of those that divide, of each kind
	LastRem32    = 0x70
	FirstDiv64   = 0x7f
	LastRem64    = 0x82
)

// The numbers of those that are of code of registers alone, as chapter 11 has them.
const (
	Move   = 0xc0
	Jump   = 0xc1
	Branch = 0xc2
	Table  = 0xc3
)

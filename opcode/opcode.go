// Package opcode has the numbers of the instructions that layers tell apart one by one: those whose doing hangs on more than the values that they take.
package opcode

// The numbers, as chapter 4 has them.
const (
	Unreachable  = 0x00
	Nop          = 0x01
	Block        = 0x02
	Loop         = 0x03
	If           = 0x04
	Br           = 0x0c
	BrIf         = 0x0d
	BrTable      = 0x0e
	Return       = 0x0f
	Call         = 0x10
	CallIndirect = 0x11
	Drop         = 0x1a
	Select       = 0x1b
	LocalGet     = 0x20
	LocalSet     = 0x21
	LocalTee     = 0x22
	GlobalGet    = 0x23
	GlobalSet    = 0x24
	MemorySize   = 0x3f
	MemoryGrow   = 0x40
)

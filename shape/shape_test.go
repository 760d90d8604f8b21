package shape_test

import (
	"testing"

	"mandrel/api"
	"mandrel/opcode"
	"mandrel/shape"
)

func TestMay(t *testing.T) {
	for _, c := range []struct {
		name   string
		in     shape.Ins
		result bool
		want   bool
	}{
		{"an add", shape.Ins{Op: 0x6a, Dst: 0, Src: []int{1, 2}}, false, true},
		{"an add of one", shape.Ins{Op: 0x6a, Dst: 0, Src: []int{1}}, false, false},
		{"an add of three", shape.Ins{Op: 0x6a, Dst: 0, Src: []int{1, 2, 3}}, false, false},
		{"an add that gives nothing", shape.Ins{Op: 0x6a, Dst: -1, Src: []int{1, 2}}, false, false},
		{"a const", shape.Ins{Op: opcode.Const64, N: -1}, false, true},
		{"a const of 32 bits", shape.Ins{Op: opcode.Const32, N: 1}, false, false},
		{"a call of any", shape.Ins{Op: opcode.Call, Dst: -1, Src: make([]int, 300)}, false, true},
		{"a function below 0", shape.Ins{Op: opcode.Call, N: -1}, false, false},
		{"an indirect call of none", shape.Ins{Op: opcode.CallIndirect}, false, false},
		{"a return of a value", shape.Ins{Op: opcode.Return, Dst: -1, Src: []int{0}}, true, true},
		{"one too many", shape.Ins{Op: opcode.Return, Dst: -1, Src: []int{0}}, false, false},
		{"an offset", shape.Ins{Op: 0x28, Src: []int{0}, Offset: 1}, false, true},
		{"an offset of nothing", shape.Ins{Op: opcode.Move, Src: []int{0}, Offset: 1}, false, false},
		{"a number of nothing", shape.Ins{Op: opcode.Move, Src: []int{0}, N: 1}, false, false},
		{"no instruction", shape.Ins{Op: 0xff, Dst: -1}, false, false},
	} {
		if got := shape.May(c.in, c.result); got != c.want {
			t.Errorf("%s: %v, want %v", c.name, got, c.want)
		}
	}
}

func TestLeads(t *testing.T) {
	for op, most := range map[byte][2]int{opcode.Jump: {1, 1}, opcode.Branch: {2, 2}, opcode.Table: {1, 257}, opcode.Return: {0, 0}, opcode.Unreachable: {0, 0}} {
		if !shape.Ends(op) {
			t.Errorf("%#x is no end", op)
		}
		for many := range 300 {
			if got, want := shape.Leads(op, many), most[0] <= many && many <= most[1]; got != want {
				t.Errorf("%#x to %d blocks: %v", op, many, got)
			}
		}
	}
}

func TestType(t *testing.T) {
	m := api.Module{Types: []api.Type{{}, {Result: api.I64}}, Funcs: []api.Func{{Type: 1}, {Type: 2}}}
	if typ, ok := shape.Type(m, 0); !ok || typ.Result != api.I64 {
		t.Errorf("%v, %v", typ, ok)
	}
	for _, f := range []int64{-1, 1, 2, 1 << 40} {
		if _, ok := shape.Type(m, f); ok {
			t.Errorf("function %d has a type", f)
		}
	}
}

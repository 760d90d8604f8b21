package sample_test

import (
	"fmt"
	"math/rand"
	"testing"

	"mandrel/api"
	"mandrel/inst"
	"mandrel/notation"
	"mandrel/opcode"
	"mandrel/ops"
	"mandrel/sample"
	"mandrel/shape"
	"mandrel/valid"
	"mandrel/vcode"
)

func TestBench(t *testing.T) {
	m := sample.Bench(sample.TypeMixed, notation.Code("local.get 1"))
	if f, err := valid.Check(m); err != nil {
		t.Errorf("function %d: %v", f, err)
	}
	if _, trap, err := inst.New(m); err != nil {
		t.Errorf("%d, %v", trap, err)
	}
	if len(m.Funcs) != sample.FuncBack+1 || len(m.Types) != sample.TypeNoneAgain+1 {
		t.Errorf("%d functions, %d types", len(m.Funcs), len(m.Types))
	}
}

// counts is what made modules have: how often each instruction, and how many behind br and such.
type counts struct {
	each   [256]int
	behind [256]int
}

func (c *counts) list(l []api.Instr, behind bool) {
	for _, in := range l {
		c.each[in.Op]++
		if behind {
			c.behind[in.Op]++
		}
		c.list(in.Body, behind)
		c.list(in.Else, behind)
		switch in.Op {
		case opcode.Unreachable, opcode.Br, opcode.BrTable, opcode.Return:
			behind = true
		}
	}
}

// TestMade: made modules may run, take what Args gives, and have each instruction, those of blocks and branches behind br and such, too.
func TestMade(t *testing.T) {
	k := &sample.Maker{Intn: rand.New(rand.NewSource(1)).Intn}
	var c counts
	for i := range 1500 {
		m := k.Module()
		if f, err := valid.Check(m); err != nil {
			t.Fatalf("module %d, function %d: %v: %v", i, f, err, m.Funcs[max(f, 0)].Body)
		}
		for f, fn := range m.Funcs {
			if err := inst.Fits(m, f, k.Args(m, f)); err != nil {
				t.Fatalf("module %d, function %d: %v", i, f, err)
			}
			c.list(fn.Body, false)
		}
	}
	for op := range 256 {
		name := ops.Name(byte(op))
		if name != "" && c.each[op] < 50 {
			t.Errorf("%s: %d times", name, c.each[op])
		}
		if name != "" && op <= opcode.GlobalSet && c.behind[op] < 10 {
			t.Errorf("%s: %d times behind br and such", name, c.behind[op])
		}
	}
}

// TestMadeCodes: made code is that of its functions, and has each instruction; nothing of the module is changed by it.
func TestMadeCodes(t *testing.T) {
	k := &sample.Maker{Intn: rand.New(rand.NewSource(2)).Intn}
	var each [256]int
	for i := range 1500 {
		m := k.Module()
		before := fmt.Sprint(m)
		l := k.Codes(m)
		if fmt.Sprint(m) != before {
			t.Fatalf("module %d was changed", i)
		}
		if len(l) != len(m.Funcs) {
			t.Fatalf("module %d: %d codes", i, len(l))
		}
		for f, c := range l {
			if err := vcode.Fits(m, f, c); err != nil {
				t.Fatalf("module %d, function %d: %v: %v", i, f, err, c)
			}
			for _, b := range c.Blocks {
				for _, in := range b.Ins {
					each[in.Op]++
				}
			}
		}
	}
	for op := range 256 {
		if ofVirtual(byte(op)) && each[op] < 50 {
			t.Errorf("%s: %d times", shape.Name(byte(op)), each[op])
		}
	}
}

// ofVirtual says whether there is such an instruction in code of virtual registers, however many of them it takes.
func ofVirtual(op byte) bool {
	for takes := range 4 {
		for _, dst := range []int{-1, 0} {
			if shape.May(shape.Ins{Op: op, Dst: dst, Src: make([]int, takes)}, false) {
				return true
			}
		}
	}
	return false
}

package spec_test

import (
	"fmt"
	"math"
	"testing"

	"mandrel/api"
)

// SP2: blocks, and branches to each label about them.

func TestBlocks(t *testing.T) {
	holdAll(t, []trial{
		{"an empty block", typeNone, "block ( )", nil, nil, 0, 1},
		{"a block of a value", typeI, "block i32 ( i32.const 3 )", nil, give(3), 0, 2},
		{"a block of I64", typeBigI, "block i64 ( i64.const -3 )", nil, give(math.MaxUint64 - 2), 0, 2},
		{"what stands beneath a block", typeI, "i32.const 1 block i32 ( i32.const 3 ) i32.sub", nil, give(1<<32 - 2), 0, 4},
		{"what stands beneath a block of none", typeI, "i32.const 1 block ( i32.const 3 drop ) i32.const 9 i32.sub", nil, give(1<<32 - 8), 0, 6},
		{"blocks in blocks", typeI, "block i32 ( block i32 ( block ( ) block i32 ( i32.const 3 ) ) )", nil, give(3), 0, 5},
		{"an empty loop", typeNone, "loop ( )", nil, nil, 0, 1},
		{"a loop of a value, once", typeBigI, "loop i64 ( i64.const 9 )", nil, give(9), 0, 2},
		{"what stands beneath a loop", typeI, "i32.const 10 loop i32 ( i32.const 3 ) i32.sub", nil, give(7), 0, 4},
		{"if", typeI, "i32.const 1 if i32 ( i32.const 3 ) else ( i32.const 4 )", nil, give(3), 0, 3},
		{"else", typeI, "i32.const 0 if i32 ( i32.const 3 ) else ( i32.const 4 )", nil, give(4), 0, 3},
		{"if by any that is not 0", typeBigI, "i32.const -2147483648 if i64 ( i64.const 3 ) else ( i64.const 4 )", nil, give(3), 0, 3},
		{"what stands beneath an if", typeI, "i32.const 10 i32.const 1 if i32 ( i32.const 3 ) else ( i32.const 4 ) i32.sub", nil, give(7), 0, 5},
		{"what stands beneath an else", typeI, "i32.const 10 i32.const 0 if i32 ( i32.const 3 ) else ( i32.const 4 ) i32.sub", nil, give(6), 0, 5},
		{"if without else, done", typeI, "i32.const 1 if ( call 1 ) global.get 0", nil, give(6), 0, 8},
		{"if without else, not done", typeI, "i32.const 0 if ( call 1 ) global.get 0", nil, give(5), 0, 3},
		{"else alone, done", typeI, "i32.const 0 if ( ) else ( call 1 ) global.get 0", nil, give(6), 0, 8},
		{"else alone, not done", typeI, "i32.const 1 if ( ) else ( call 1 ) global.get 0", nil, give(5), 0, 3},
		{"an empty if", typeNone, "i32.const 1 if ( )", nil, nil, 0, 2},
		{"an if without both", typeNone, "i32.const 0 if ( )", nil, nil, 0, 2},
		{"locals in blocks", typeII, "block ( loop ( local.get 0 i32.const 5 i32.add local.set 0 ) ) local.get 0", with(3), give(8), 0, 7},
	})
}

// nested has a branch in two blocks with values; beneath the branch's value stand others in each.
func nested(branch string) string {
	return "i32.const 1000 block i32 ( i32.const 100 block i32 ( i32.const 10 i32.const 11 i32.const 12 " + branch + " ) i32.add ) i32.add"
}

// emptyNested is the same, of labels that hand on nothing; it gives where it came by.
func emptyNested(branch string) string {
	return "i32.const 8 block ( i32.const 7 i32.const 7 block ( i32.const 6 i32.const 6 " + branch + " drop drop ) local.get 1 i32.const 1 i32.add local.set 1 drop drop ) local.get 1 i32.const 10 i32.add local.get 0 i32.add i32.sub"
}

func TestBranches(t *testing.T) {
	holdAll(t, []trial{
		{"br 0 keeps one of three", typeI, nested("br 0"), nil, give(1112), 0, 10},
		{"br 1", typeI, nested("br 1"), nil, give(1012), 0, 9},
		{"br to the body", typeI, nested("br 2"), nil, give(12), 0, 8},
		{"return", typeI, nested("return"), nil, give(12), 0, 8},
		{"br_if 0", typeI, nested("i32.const 1 br_if 0 i32.add i32.add"), nil, give(1112), 0, 11},
		{"br_if 1", typeI, nested("i32.const 2 br_if 1 i32.add i32.add"), nil, give(1012), 0, 10},
		{"br_if to the body", typeI, nested("i32.const -1 br_if 2 i32.add i32.add"), nil, give(12), 0, 9},
		{"br_if 0, not done", typeI, nested("i32.const 0 br_if 0 i32.add i32.add"), nil, give(1133), 0, 13},
		{"br_if 1, not done", typeI, nested("i32.const 0 br_if 1 i32.add i32.add"), nil, give(1133), 0, 13},
		{"br_if to the body, not done", typeI, nested("i32.const 0 br_if 2 i32.add i32.add"), nil, give(1133), 0, 13},

		{"br 0 of none", typeII, emptyNested("br 0"), with(0), give(1<<32 - 3), 0, 20},
		{"br 1 of none", typeII, emptyNested("br 1"), with(0), give(1<<32 - 2), 0, 14},
		{"return through labels of none", typeII, emptyNested("i32.const 5 return"), with(0), give(5), 0, 9},

		{"br behind the last instruction", typeNone, "block ( br 0 ) br 0 nop", nil, nil, 0, 3},
		{"what stands behind br is not done", typeI, "block ( br 0 call 1 ) global.get 0", nil, give(5), 0, 3},
		{"br out of an if", typeI, "i32.const 1 if i32 ( i32.const 2 i32.const 3 br 0 ) else ( i32.const 4 )", nil, give(3), 0, 5},
		{"br out of an else", typeI, "i32.const 50 i32.const 0 if i32 ( i32.const 4 ) else ( i32.const 2 i32.const 3 br 0 ) i32.add", nil, give(53), 0, 7},
		{"br through an if", typeI, "i32.const 50 block i32 ( i32.const 2 i32.const 1 if ( i32.const 3 br 1 ) ) i32.add", nil, give(53), 0, 8},
		{"br to the body without a value", typeNone, "i32.const 1 block ( i32.const 2 br 1 ) drop", nil, nil, 0, 4},
		{"br to the body at its top", typeI, "i32.const 1 i32.const 2 br 0", nil, give(2), 0, 3},
		{"return without a value", typeNone, "i32.const 1 block ( i32.const 2 i64.const 3 return ) drop", nil, nil, 0, 5},
		{"return at the top", typeBigI, "i32.const 1 i64.const 2 return nop", nil, give(2), 0, 3},
		{"return out of blocks", typeI, "i32.const 1 block ( i32.const 2 loop ( i32.const 3 i32.const 4 return ) drop )", nil, give(4), 0, 7},
		{"a value handed on, of I64", typeBigI, "i64.const 1 block i64 ( i32.const 7 i64.const -2 br 0 ) i64.add", nil, give(math.MaxUint64), 0, 6},
	})
}

func TestLoopsAgain(t *testing.T) {
	const less = "local.get 0 i32.const 1 i32.sub local.tee 0 "
	holdAll(t, []trial{
		{"a sum", typeII, "loop ( local.get 1 local.get 0 i32.add local.set 1 " + less + "br_if 0 ) local.get 1", with(5), give(15), 0, 1 + 5*9 + 1},
		{"once", typeII, "loop ( local.get 1 local.get 0 i32.add local.set 1 " + less + "br_if 0 ) local.get 1", with(1), give(1), 0, 1 + 9 + 1},
		{"a loop of a value hands on none", typeII, "i32.const 5 loop i32 ( i32.const 8 " + less + "br_if 0 ) i32.add", with(4), give(13), 0, 2 + 4*6 + 1},
		{"what was laid is gone", typeII, "i32.const 50 loop i32 ( i32.const 8 i64.const 9 " + less + "br_if 0 drop ) i32.sub", with(3), give(42), 0, 2 + 3*7 + 2},
		{"br 1 out of a block", typeII, "loop ( block ( " + less + "i32.eqz br_if 0 br 1 ) ) local.get 0", with(3), give(0), 0, 1 + 2*8 + 7 + 1},
		{"br 1 out of an if", typeII, "i32.const 100 loop ( i32.const 7 " + less + "if ( i32.const 6 br 1 ) drop ) local.get 0 i32.add", with(3), give(100), 0, 2 + 2*8 + 7 + 2},
		{"out of the loop", typeII, "block i32 ( loop i32 ( i32.const 7 " + less + "i32.eqz br_if 1 drop br 0 ) )", with(3), give(7), 0, 2 + 2*9 + 7},
		{"a loop in a loop", typeII, "loop ( i32.const 3 local.set 1 loop ( call 1 local.get 1 i32.const 1 i32.sub local.tee 1 br_if 0 ) " + less + "br_if 0 ) global.get 0", with(4), give(17), 0, 1 + 4*(3+3*10+5) + 1},
		{"to the outer loop", typeII, "loop ( call 1 loop ( " + less + "br_if 1 ) ) global.get 0", with(4), give(9), 0, 1 + 4*11 + 1},
		{"to the body out of a loop", typeII, "loop i32 ( i32.const 7 " + less + "i32.eqz br_if 1 drop br 0 )", with(3), give(7), 0, 1 + 2*9 + 7},
	})
}

// TestTables: br_table by each value, also beyond its labels.
func TestTables(t *testing.T) {
	// To each label: 0, 1, the body, and once more 1 for all others.
	for _, c := range []struct {
		arg  uint64
		give uint64
		used int
	}{
		{0, 1112, 11}, {1, 1012, 10}, {2, 12, 9}, {3, 1012, 10}, {4, 1012, 10}, {5, 1012, 10}, {1<<32 - 1, 1012, 10}, {1 << 31, 1012, 10},
	} {
		hold(t, trial{fmt.Sprintf("the value %d", c.arg), typeII, nested("local.get 0 br_table 0 1 2 1 ;"), with(c.arg), give(c.give), 0, c.used})
	}
	for _, c := range []struct {
		arg  uint64
		give uint64
		used int
	}{
		{0, 1<<32 - 3, 21}, {1, 1<<32 - 3, 15}, {2, 1<<32 - 5, 21}, {200, 1<<32 - 203, 21},
	} {
		hold(t, trial{fmt.Sprintf("of none, the value %d", c.arg), typeII, emptyNested("local.get 0 br_table 0 1 0 ;"), with(c.arg), give(c.give), 0, c.used})
	}
	holdAll(t, []trial{
		{"one label, 0", typeII, nested("local.get 0 br_table 1 ;"), with(0), give(1012), 0, 10},
		{"one label, 1", typeII, nested("local.get 0 br_table 1 ;"), with(1), give(1012), 0, 10},
		{"a loop's label", typeII, "block ( loop ( block ( local.get 0 local.get 0 i32.const 1 i32.sub local.set 0 br_table 0 1 1 2 ; ) ) ) local.get 0", with(2), give(1<<32 - 1), 0, 2 + 3*7 + 1},
		{"behind br_table", typeI, "block ( i32.const 0 br_table 0 ; call 1 ) global.get 0", nil, give(5), 0, 4},
	})
}

// TestNoEnd: what does not end uses all fuel.
func TestNoEnd(t *testing.T) {
	for _, text := range []string{"loop ( br 0 )", "loop ( i32.const 1 br_if 0 )", "loop ( i64.const 1 i32.const 9 br_table 0 0 ; )", "loop ( loop ( br 1 ) )", "loop ( block ( br 1 ) )", "loop ( call 6 br 0 )"} {
		for _, fuel := range []int{0, 1, 2, 3, 99, 10007} {
			c := trial{text, typeNone, text, nil, nil, api.Fuel, fuel}
			if o := call(t, machine(t, c.module()), 0, nil, fuel); !same(o, c.want()) {
				t.Errorf("%s with fuel %d: %v", text, fuel, o)
			}
		}
	}
}

package lower_test

import (
	"fmt"
	"slices"
	"strings"
	"testing"

	"mandrel/api"
	"mandrel/ops"
	"mandrel/sample"
)

// noted is a body of bench's function 0.
type noted struct {
	name string
	typ  uint32
	text string
}

// typeGiving is the type of bench that takes nothing and gives a kind.
func typeGiving(k api.Kind) uint32 {
	switch k {
	case api.I32:
		return sample.TypeI
	case api.I64:
		return sample.TypeBigI
	}
	return sample.TypeNone
}

// constant notes a const of a kind.
func constant(k api.Kind, n int) string {
	if k == api.I32 {
		return fmt.Sprintf("i32.const %d ", n)
	}
	return fmt.Sprintf("i64.const %d ", n)
}

// withSign are bodies of each instruction that has a sign, of some numbers.
func withSign() []noted {
	var out []noted
	for op := range 256 {
		sign, err := ops.Sign(byte(op))
		if err != nil {
			continue
		}
		name := ops.Name(byte(op))
		more := ""
		switch form, _ := ops.Form(byte(op)); form {
		case ops.Address:
			more = " 0 +4"
		case ops.Const32, ops.Const64:
			more = " -6"
		}
		for _, n := range [][2]int{{4, 3}, {-7, 2}, {-1, 0}, {4088, -1}, {-1 << 31, -1}} {
			text := ""
			for i, k := range sign.Params {
				text += constant(k, n[i])
			}
			out = append(out, noted{name, typeGiving(sign.Result), text + name + more})
		}
	}
	return out
}

// others are bodies of each instruction that has no sign, and is none of blocks and branches.
var others = []noted{
	{"nothing", sample.TypeNone, ""},
	{"nop", sample.TypeNone, "nop nop"},
	{"unreachable", sample.TypeNone, "unreachable"},
	{"unreachable that gives", sample.TypeI, "i32.const 1 unreachable nop"},
	{"drop", sample.TypeI, "i32.const 7 i64.const 8 drop"},
	{"select", sample.TypeTwo, "local.get 0 local.get 1 local.get 0 select"},
	{"select above others", sample.TypeII, "i32.const 100 i32.const 7 i32.const 8 local.get 0 select i32.sub"},
	{"select of I64", sample.TypeMixed, "i64.const -7 local.get 1 local.get 2 select"},
	{"i32.const below 0", sample.TypeI, "i32.const -1"},
	{"the least i32.const", sample.TypeI, "i32.const -2147483648"},
	{"the least i64.const", sample.TypeBigI, "i64.const -9223372036854775808"},
	{"an i32.const below 0, made longer", sample.TypeBigI, "i32.const -5 i64.extend_i32_u"},
	{"local.get", sample.TypeTwo, "local.get 1"},
	{"locals are noughts", sample.TypeMixed, "local.get 4 local.get 3 i64.extend_i32_u i64.add"},
	{"local.set", sample.TypeTwo, "local.get 0 i32.const 9 local.set 0 local.get 0 i32.sub local.get 1 i32.add"},
	{"local.tee", sample.TypeTwo, "i32.const 5 local.get 1 local.tee 0 i32.sub local.get 0 i32.sub"},
	{"a local that is got stays what it was", sample.TypeTwo, "local.get 0 local.get 1 local.set 0 local.get 0 local.set 1 local.get 1 i32.sub"},
	{"global.get", sample.TypeBigI, "global.get 1 global.get 3 i64.extend_i32_u i64.add"},
	{"global.set", sample.TypeBigI, "i64.const 1 global.get 2 i64.add global.set 2 global.get 2 i32.const 77 global.set 0"},
	{"a call of nothing", sample.TypeNone, "call 6 call 6 call 6"},
	{"a call that gives nothing", sample.TypeI, "call 1 global.get 0"},
	{"a call of two", sample.TypeTwo, "i32.const 100 local.get 0 local.get 1 call 2 i32.sub"},
	{"a call of three", sample.TypeMixed, "local.get 0 local.get 1 local.get 2 call 3"},
	{"a call that stores", sample.TypeTakesI, "local.get 0 call 4"},
	{"a call that traps", sample.TypeI, "call 1 i32.const 5 call 5 i32.const 7 i32.add"},
	{"a call that returns", sample.TypeI, "i32.const 5 call 7 i32.add"},
	{"indirect, of nothing", sample.TypeNone, "i32.const 0 call_indirect 0"},
	{"indirect, by the same type", sample.TypeNone, "i32.const 0 call_indirect 8"},
	{"indirect, of two", sample.TypeTwo, "i32.const 100 local.get 0 local.get 1 i32.const 1 call_indirect 4 i32.sub"},
	{"indirect, of three", sample.TypeMixed, "local.get 0 local.get 1 local.get 2 i32.const 2 call_indirect 5"},
	{"indirect, to any", sample.TypeII, "i32.const 9 i32.const 2 local.get 0 call_indirect 4"},
	{"indirect, a trap within", sample.TypeNone, "call 1 i32.const 5 call_indirect 0"},
	{"indirect, no function", sample.TypeNone, "i32.const 6 call_indirect 0"},
	{"indirect, beyond the table", sample.TypeNone, "i32.const -1 call_indirect 0"},
	{"indirect, another type", sample.TypeI, "i32.const 0 call_indirect 1"},
	{"calls without end", sample.TypeNone, "call 0"},
	{"indirect calls without end", sample.TypeNone, "i32.const 4 call_indirect 0"},
	{"itself", sample.TypeII, "local.get 0 if i32 ( local.get 0 i32.const 1 i32.sub call 0 local.get 0 i32.add ) else ( i32.const 1000 )"},
	{"stores, one by one, and a trap", sample.TypeNone, "i32.const 4084 i64.const -1 i64.store 0 i32.const 4088 i64.const -2 i64.store 0 i32.const 4092 i64.const -3 i64.store 0"},
	{"a memory that grows", sample.TypeI, "i32.const 8000 i32.const 1 memory.grow drop i32.const 5 i32.store8 0 i32.const 8000 i32.load 0 memory.size i32.add i32.const 9 memory.grow i32.add"},
}

// blocks are bodies of blocks in one another, without branches.
var blocks = []noted{
	{"an empty block", sample.TypeNone, "block ( )"},
	{"a block of a value", sample.TypeBigI, "block i64 ( i64.const -3 )"},
	{"what stands beneath a block", sample.TypeI, "i32.const 1 block i32 ( i32.const 3 ) i32.sub"},
	{"what stands beneath a block of none", sample.TypeI, "i32.const 1 block ( i32.const 3 drop ) i32.const 9 i32.sub"},
	{"blocks in blocks", sample.TypeI, "block i32 ( block i32 ( block ( ) block i32 ( i32.const 3 ) ) )"},
	{"an empty loop", sample.TypeNone, "loop ( )"},
	{"a loop of a value", sample.TypeBigI, "i32.const 1 loop i64 ( loop i64 ( i64.const 9 ) ) global.set 2 drop global.get 2"},
	{"loops in loops", sample.TypeI, "loop ( loop ( loop ( call 1 ) call 1 ) call 1 ) global.get 0 loop i32 ( i32.const 2 ) i32.add"},
	{"an if and an else", sample.TypeII, "i32.const 10 local.get 0 if i32 ( i32.const 3 ) else ( i32.const 4 ) i32.sub"},
	{"an if of none, and an else", sample.TypeII, "local.get 0 if ( call 1 ) else ( i32.const 7 call 4 ) global.get 0"},
	{"an if without an else", sample.TypeII, "i32.const 3 local.get 0 if ( call 1 ) global.get 0 i32.add"},
	{"an else alone", sample.TypeII, "local.get 0 if ( ) else ( call 1 ) global.get 0"},
	{"an empty if", sample.TypeII, "local.get 0 if ( ) local.get 0"},
	{"ifs in ifs", sample.TypeTwo, "local.get 0 if i32 ( local.get 1 if i32 ( i32.const 1 ) else ( i32.const 2 ) ) else ( local.get 1 if i32 ( i32.const 3 ) else ( i32.const 4 ) i32.const 10 i32.add ) i32.const 5 i32.mul"},
	{"an if that is taken at once", sample.TypeTwo, "local.get 0 local.get 1 i32.lt_u if i32 ( local.get 0 ) else ( local.get 1 ) if i32 ( i32.const 5 ) else ( i32.const 6 )"},
	{"an if in a block in a loop", sample.TypeII, "loop i32 ( block i32 ( local.get 0 if i32 ( i32.const 1 ) else ( i32.const 2 ) ) i32.const 4 i32.add )"},
	{"locals in blocks", sample.TypeII, "block ( loop ( local.get 0 i32.const 5 i32.add local.set 0 ) ) local.get 0"},
}

// nested has a branch in two blocks with values; beneath the branch's value stand others in each.
func nested(branch string) string {
	return "i32.const 1000 block i32 ( i32.const 100 block i32 ( i32.const 10 i32.const 11 i32.const 12 " + branch + " ) i32.add ) i32.add"
}

// low is the same, with nothing beneath.
func low(branch string) string {
	return "block i32 ( block i32 ( i32.const 12 " + branch + " ) i32.const 1 i32.add ) i32.const 2 i32.add"
}

// empty is the same, of labels that hand on nothing.
func empty(branch string) string {
	return "i32.const 8 block ( i32.const 7 i32.const 7 block ( i32.const 6 i32.const 6 " + branch + " drop drop ) local.get 1 i32.const 1 i32.add local.set 1 drop drop ) local.get 1 i32.const 10 i32.add local.get 0 i32.add i32.sub"
}

// less counts local 0 down, and lays it.
const less = "local.get 0 i32.const 1 i32.sub local.tee 0 "

// branches are bodies with branches out of blocks.
func branches() []noted {
	var out []noted
	for _, b := range []string{
		"br 0", "br 1", "br 2", "return", "unreachable",
		"local.get 0 br_if 0 drop", "local.get 0 br_if 1 drop", "local.get 0 br_if 2 drop",
		"local.get 0 br_table 0 ;", "local.get 0 br_table 1 ;", "local.get 0 br_table 2 ;",
		"local.get 0 br_table 0 1 2 1 ;", "local.get 0 br_table 2 2 2 0 0 0 ;", "local.get 0 br_table 1 0 0 0 2 2 2 ;",
	} {
		one := strings.Replace(b, " drop", "", 1)
		two := strings.Replace(b, " drop", " i32.add i32.add", 1)
		out = append(out, noted{"low: " + b, sample.TypeII, low(one)}, noted{"nested: " + b, sample.TypeII, nested(two)})
	}
	for _, b := range []string{
		"br 0", "br 1", "i32.const 5 return", "unreachable", "local.get 0 br_if 0", "local.get 0 br_if 1",
		"local.get 0 br_table 0 ;", "local.get 0 br_table 0 1 0 ;", "local.get 0 br_table 1 1 0 0 1 ;",
	} {
		out = append(out, noted{"empty: " + b, sample.TypeII, empty(b)})
	}
	return append(out, moreBranches...)
}

var moreBranches = []noted{
	{"br at the body's end", sample.TypeII, "local.get 0 br 0"},
	{"br above another value", sample.TypeII, "i32.const 1 local.get 0 br 0"},
	{"br_if to the body, twice", sample.TypeII, "i32.const 4 local.get 0 br_if 0 i32.const 5 local.get 0 i32.eqz br_if 0 drop"},
	{"br_if to a body of none, twice", sample.TypeTakesI, "local.get 0 br_if 0 call 1 local.get 0 i32.const 7 i32.eq br_if 0 call 1"},
	{"br_table to a body of none", sample.TypeTakesI, "block ( local.get 0 br_table 0 1 0 1 ; ) call 1"},
	{"br out of an if", sample.TypeII, "i32.const 50 local.get 0 if i32 ( i32.const 2 i32.const 3 br 0 ) else ( i32.const 4 ) i32.add"},
	{"br out of an else", sample.TypeII, "i32.const 50 local.get 0 if i32 ( i32.const 4 ) else ( i32.const 2 i32.const 3 br 0 ) i32.add"},
	{"br out of both", sample.TypeII, "i32.const 50 local.get 0 if i32 ( i32.const 2 i32.const 4 br 0 ) else ( i32.const 2 i32.const 3 br 0 ) i32.add"},
	{"return out of both", sample.TypeII, "i32.const 50 local.get 0 if i32 ( i32.const 2 return ) else ( i32.const 3 return ) i32.add"},
	{"br through an if", sample.TypeII, "i32.const 50 block i32 ( i32.const 2 local.get 0 if ( i32.const 3 br 1 ) ) i32.add"},
	{"br_if out of an if without an else", sample.TypeTwo, "local.get 0 if ( local.get 1 br_if 0 call 1 ) global.get 0"},
	{"a value of I64", sample.TypeMixed, "i64.const 1 block i64 ( i32.const 7 local.get 1 local.get 0 br_if 0 br 0 ) i64.add"},
	{"a br_if's value is still there", sample.TypeII, "i32.const 9 block i32 ( i32.const 3 i32.const 4 local.get 0 br_if 0 i32.const 5 i32.mul i32.add ) i32.add"},
	{"a sum", sample.TypeII, "local.get 0 if ( loop ( local.get 1 local.get 0 i32.add local.set 1 " + less + "br_if 0 ) ) local.get 1"},
	{"a loop of a value", sample.TypeII, "i32.const 5 loop i32 ( i32.const 8 " + less + "i32.const 3 i32.and br_if 0 ) i32.add"},
	{"what was laid is gone", sample.TypeII, "i32.const 50 loop i32 ( i32.const 8 i64.const 9 " + less + "i32.const 3 i32.and br_if 0 drop ) i32.sub"},
	{"br 1 out of a block", sample.TypeII, "loop ( block ( " + less + "i32.const 7 i32.and i32.eqz br_if 0 br 1 ) ) local.get 0"},
	{"br 1 out of an if", sample.TypeII, "i32.const 100 loop ( i32.const 7 " + less + "i32.const 7 i32.and if ( i32.const 6 br 1 ) drop ) local.get 0 i32.add"},
	{"out of the loop", sample.TypeII, "block i32 ( loop i32 ( i32.const 7 " + less + "i32.const 7 i32.and i32.eqz br_if 1 drop br 0 ) )"},
	{"to the body out of a loop", sample.TypeII, "i32.const 1 loop i32 ( i32.const 7 " + less + "i32.const 7 i32.and i32.eqz br_if 1 drop br 0 ) i32.add"},
	{"a loop in a loop", sample.TypeII, "loop ( i32.const 3 local.set 1 loop ( call 1 local.get 1 i32.const 1 i32.sub local.tee 1 br_if 0 ) " + less + "i32.const 3 i32.and br_if 0 ) global.get 0"},
	{"to the outer loop", sample.TypeII, "loop ( call 1 loop ( " + less + "i32.const 3 i32.and br_if 1 ) call 1 ) global.get 0"},
	{"a table of a loop", sample.TypeII, "block ( loop ( block ( local.get 0 i32.const 3 i32.and local.get 0 i32.const 1 i32.sub local.set 0 br_table 0 1 1 2 ; ) call 1 ) ) local.get 0 global.get 0 i32.add"},
	{"a moved value in a loop", sample.TypeII, "loop i32 ( i32.const 1 block i32 ( i32.const 2 i32.const 3 " + less + "i32.const 7 i32.and br_if 0 drop drop i32.const 0 ) drop " + less + "i32.const 3 i32.and br_if 0 )"},
	{"calls of nothing in a loop", sample.TypeII, "loop ( call 6 call 6 " + less + "i32.const 15 i32.and br_if 0 ) local.get 0"},
}

// behind are bodies with instructions behind an unreachable, a br, a br_table and a return, blocks too.
func behind() []noted {
	var out []noted
	for _, off := range []string{"unreachable", "br 0", "br 1", "i32.const 9 br 2", "i32.const 9 return", "local.get 0 br_table 0 1 ;", "i32.const 9 local.get 0 br_table 2 2 ;"} {
		for _, dead := range []string{
			"", "nop", "drop", "drop drop drop", "i32.add drop", "i64.add i64.const 1 i64.mul i32.wrap_i64 call 4", "select drop", "select i32.const 1 i32.add drop",
			"i32.const 1 i32.const 2 i32.const 3 i32.const 4 i32.const 5 i32.const 6 i32.const 7 drop drop drop drop drop drop drop",
			"block ( call 1 br 0 )", "block i32 ( i32.const 1 i32.const 2 br 0 ) drop", "loop ( loop ( br 1 ) )", "loop i64 ( unreachable ) drop",
			"if ( call 1 ) else ( i32.const 1 return )", "if i32 ( i32.const 1 i32.const 1 br_if 3 br 0 ) else ( unreachable ) br_if 0", "br_table 0 1 ; call 1", "return", "br 2", "br_if 1", "br_if 2 drop",
			"local.set 0", "local.tee 0 drop", "global.set 0", "i32.store 0", "i32.load 0 drop", "call_indirect 5 drop", "call 2 drop", "memory.grow drop", "unreachable unreachable",
		} {
			text := "block ( block ( i32.const 1 drop " + off + " " + dead + " ) call 1 ) global.get 0"
			out = append(out, noted{"behind " + off + ": " + dead, sample.TypeII, text})
		}
	}
	return append(out, moreBehind...)
}

var moreBehind = []noted{
	{"behind a block that never ends", sample.TypeI, "block ( unreachable ) i32.const 1 i32.const 2 i32.add"},
	{"behind a block that never ends, of a value", sample.TypeI, "block i32 ( i32.const 7 return ) i32.const 2 i32.add"},
	{"behind a loop that never ends", sample.TypeI, "i32.const 4 if ( loop ( br 0 ) call 1 i32.const 1 i32.const 2 i32.const 3 drop drop drop ) i32.const 2"},
	{"behind an if that never ends", sample.TypeII, "local.get 0 if ( i32.const 6 return ) else ( unreachable ) i32.const 2 i32.const 3 i32.add"},
	{"behind a then that never ends", sample.TypeII, "i32.const 30 local.get 0 if i32 ( unreachable i32.add ) else ( i32.const 4 ) i32.add"},
	{"behind an else that never ends", sample.TypeII, "i32.const 30 local.get 0 if i32 ( i32.const 4 ) else ( i32.const 9 return nop ) i32.add"},
	{"a body that never gives", sample.TypeI, "unreachable i32.const 1 i64.const 2 drop"},
	{"a label that only what can't be come to goes to", sample.TypeI, "block i32 ( unreachable i32.const 1 br 0 ) drop i32.const 2"},
	{"the body's label, so", sample.TypeI, "unreachable i32.const 1 i32.const 1 br_if 0"},
	{"a loop there", sample.TypeII, "local.get 0 return loop ( loop ( loop ( br 2 ) ) ) i32.const 1"},
	{"a br_table to labels of a height", sample.TypeI, "i32.const 3 block ( i32.const 2 br_table 0 0 ; drop ) unreachable"},
}

// allNoted are all bodies that are noted here.
func allNoted() []noted {
	return slices.Concat(withSign(), others, blocks, branches(), behind())
}

// TestEachInstruction: among the bodies each instruction stands.
func TestEachInstruction(t *testing.T) {
	seen := map[string]int{}
	for _, c := range allNoted() {
		for _, word := range strings.Fields(c.text) {
			seen[word]++
		}
	}
	for op := range 256 {
		if name := ops.Name(byte(op)); name != "" && seen[name] == 0 {
			t.Errorf("no %s", name)
		}
	}
}

package vrun_test

import (
	"fmt"
	"math"
	"slices"
	"strings"
	"testing"

	"mandrel/api"
	"mandrel/num"
	"mandrel/ops"
)

// VR2: each instruction that is no end, and no call.

// typeGiving is the type of bench that takes nothing and gives a kind.
func typeGiving(k api.Kind) uint32 {
	return map[api.Kind]uint32{api.None: typeNone, api.I32: typeI, api.I64: typeBigI}[k]
}

// TestExample is the chapter's.
func TestExample(t *testing.T) {
	hold(t, trial{"the example", typeI, "r0 = const 7; return r0", nil, give(7), 0, 2})
}

// TestNumbersOne: each instruction of numbers once, by what chapter 2 says of it.
func TestNumbersOne(t *testing.T) {
	seen := map[string]int{}
	for _, line := range strings.Split(strings.TrimSpace(`
i32.eqz 4294967296 = 1
i32.eq 3 4294967299 = 1
i32.ne 3 4 = 1
i32.lt_s 4294967295 1 = 1
i32.lt_u -1 1 = 0
i32.gt_s -1 1 = 0
i32.gt_u -1 1 = 1
i32.le_s -1 1 = 1
i32.le_u -1 1 = 0
i32.ge_s -1 1 = 0
i32.ge_u -1 1 = 1
i64.eqz 4294967296 = 0
i64.eq 4294967296 0 = 0
i64.ne 4294967296 0 = 1
i64.lt_s -1 1 = 1
i64.lt_u -1 1 = 0
i64.gt_s -1 1 = 0
i64.gt_u -1 1 = 1
i64.le_s 4294967295 1 = 0
i64.le_u -1 1 = 0
i64.ge_s -1 1 = 0
i64.ge_u -1 1 = 1
i32.clz 4294967297 = 31
i32.ctz 8 = 3
i32.popcnt -1 = 32
i32.add -1 3 = 2
i32.sub 3 5 = 4294967294
i32.mul 65536 65537 = 65536
i32.div_s -7 2 = 4294967293
i32.div_u -7 2 = 2147483644
i32.rem_s -7 2 = 4294967295
i32.rem_u -7 4 = 1
i32.and 12 10 = 8
i32.or 12 10 = 14
i32.xor 12 10 = 6
i32.shl 3 33 = 6
i32.shr_s -8 1 = 4294967292
i32.shr_u -8 1 = 2147483644
i32.rotl -2147483647 1 = 3
i32.rotr 3 1 = 2147483649
i64.clz 1 = 63
i64.ctz 8 = 3
i64.popcnt -1 = 64
i64.add -1 3 = 2
i64.sub 3 5 = 18446744073709551614
i64.mul 4294967296 4294967297 = 4294967296
i64.div_s -7 2 = 18446744073709551613
i64.div_u -7 2 = 9223372036854775804
i64.rem_s -7 2 = 18446744073709551615
i64.rem_u -7 4 = 1
i64.and 12 10 = 8
i64.or 12 10 = 14
i64.xor 12 10 = 6
i64.shl 3 65 = 6
i64.shr_s -8 1 = 18446744073709551612
i64.shr_u -8 1 = 9223372036854775804
i64.rotl -9223372036854775807 1 = 3
i64.rotr 3 1 = 9223372036854775809
i32.wrap_i64 -4294967295 = 1
i64.extend_i32_s 4294967295 = 18446744073709551615
i64.extend_i32_u -1 = 4294967295`), "\n") {
		words := strings.Fields(line)
		op, err := ops.Op(words[0])
		if err != nil {
			t.Fatal(line)
		}
		sign, _ := ops.Sign(op)
		n := len(sign.Params)
		var want uint64
		if _, err := fmt.Sscan(words[2+n], &want); err != nil || len(words) != 3+n {
			t.Fatal(line)
		}
		seen[words[0]]++
		hold(t, trial{line, typeGiving(sign.Result), reckoned(words[0], words[1:1+n]...), nil, give(want), 0, n + 2})
	}
	for op := range 256 {
		_, one := num.One(byte(op), 0)
		_, _, two := num.Two(byte(op), 0, 0)
		if (one == nil || two == nil) != (seen[ops.Name(byte(op))] == 1) {
			t.Errorf("%#x: %d times", op, seen[ops.Name(byte(op))])
		}
	}
}

// reckoned lays numbers into the registers 3 and 4, and gives what comes of them.
func reckoned(name string, numbers ...string) string {
	text, src := "", ""
	for i, n := range numbers {
		text += fmt.Sprintf("r%d = const %s; ", 3+i, n)
		src += fmt.Sprintf(" r%d", 3+i)
	}
	return text + "r6 = " + name + src + "; return r6"
}

// TestNumbers: all of them, of all pairs of edges, by layer 2; what is beyond 32 bits is there for those of I32, too.
func TestNumbers(t *testing.T) {
	edges := []uint64{0, 1, 2, 7, 31, 32, 33, 63, 64, 1<<31 - 1, 1 << 31, 1<<32 - 1, 1 << 32, 1<<32 + 5, 1<<63 - 1, 1 << 63, 1<<64 - 1}
	for op := range 256 {
		sign, err := ops.Sign(byte(op))
		form, _ := ops.Form(byte(op))
		if err != nil || form != ops.Plain {
			continue
		}
		name := ops.Name(byte(op))
		for _, x := range edges {
			if v, err := num.One(byte(op), x); err == nil {
				wantNumber(t, sign, name, v, 0, x)
				continue
			}
			for _, y := range edges {
				v, trap, err := num.Two(byte(op), x, y)
				if err != nil {
					t.Fatalf("%s: %v", name, err)
				}
				wantNumber(t, sign, name, v, trap, x, y)
			}
		}
	}
}

// wantNumber holds an instruction of numbers against the value that it gives, or the trap.
func wantNumber(t *testing.T, sign api.Type, name string, v uint64, trap api.Trap, numbers ...uint64) {
	t.Helper()
	var l []string
	for _, n := range numbers {
		l = append(l, fmt.Sprint(int64(n)))
	}
	c := trial{typ: typeGiving(sign.Result), text: reckoned(name, l...), trap: trap, used: len(l) + 1}
	if trap == api.Well {
		c.values, c.used = give(v), len(l)+2
	}
	if got := call(t, c.machine(t), 0, nil, plenty); !same(got, c.want()) {
		t.Errorf("%s: %v, want %v", c.text, got, c.want())
	}
}

func TestTrapsOfNumbers(t *testing.T) {
	for _, kind := range []string{"i32", "i64"} {
		least := map[string]string{"i32": "-2147483648", "i64": "-9223372036854775808"}[kind]
		typ := map[string]uint32{"i32": typeI, "i64": typeBigI}[kind]
		for _, op := range []string{"div_s", "div_u", "rem_s", "rem_u"} {
			hold(t, trial{"by 0", typ, reckoned(kind+"."+op, "7", "0"), nil, nil, api.Zero, 3})
		}
		hold(t, trial{"the least by -1", typ, reckoned(kind+".div_s", least, "-1"), nil, nil, api.Overflow, 3})
		hold(t, trial{"the least by -1, what is left", typ, reckoned(kind+".rem_s", least, "-1"), nil, give(0), 0, 4})
	}
	hold(t, trial{"by what is 0 in 32 bits", typeI, reckoned("i32.div_u", "7", "4294967296"), nil, nil, api.Zero, 3})
	hold(t, trial{"by what is not 0 in 64 bits", typeBigI, reckoned("i64.div_u", "7", "4294967296"), nil, give(0), 0, 4})
}

func TestConstMoveSelect(t *testing.T) {
	const choose = "r1 = const 7; r2 = const 8; r3 = select r1 r2 r0; return r3"
	holdAll(t, []trial{
		{"const", typeI, "r5 = const 7; return r5", nil, give(7), 0, 2},
		{"const 0", typeII, "r0 = const 0; return r0", with(9), give(0), 0, 2},
		{"const -1 has 64 bits", typeBigI, "r0 = const -1; return r0", nil, give(math.MaxUint64), 0, 2},
		{"so for an I32", typeI, "r0 = const -1; return r0", nil, give(math.MaxUint64), 0, 2},
		{"the least const", typeBigI, "r0 = const -9223372036854775808; return r0", nil, give(1 << 63), 0, 2},
		{"the greatest const", typeBigI, "r0 = const 9223372036854775807; return r0", nil, give(1<<63 - 1), 0, 2},
		{"a const to one register alone", typeTwo, "r1 = const 5; return r0", with(7, 8), give(7), 0, 2},

		{"move", typeTwo, "r0 = move r1; return r0", with(7, 8), give(8), 0, 2},
		{"what is moved stays", typeTwo, "r0 = move r1; return r1", with(7, 8), give(8), 0, 2},
		{"move to itself", typeTwo, "r0 = move r0; return r0", with(7, 8), give(7), 0, 2},
		{"a move is of the value there is", typeTwo, "r5 = move r0; r0 = move r1; return r5", with(7, 8), give(7), 0, 3},
		{"move of 64 bits", typeBigII, "r7 = move r0; return r7", with(math.MaxUint64), give(math.MaxUint64), 0, 2},
		{"move of a nought", typeTwo, "r0 = move r2; return r0", with(7, 8), give(0), 0, 2},

		{"select by 1", typeII, choose, with(1), give(7), 0, 4},
		{"select by 0", typeII, choose, with(0), give(8), 0, 4},
		{"select by any that is not 0", typeII, choose, with(1 << 31), give(7), 0, 4},
		{"select by what is not 0 in 64 bits", typeBigII, choose, with(1 << 32), give(7), 0, 4},
		{"select to what it is taken by", typeII, "r1 = const 7; r0 = select r1 r0 r0; return r0", with(5), give(7), 0, 3},
		{"select of one register", typeII, "r0 = select r0 r0 r0; return r0", with(5), give(5), 0, 2},
	})
}

func TestGlobals(t *testing.T) {
	holdAll(t, []trial{
		{"global.get", typeI, "r3 = global.get 0; return r3", nil, give(5), 0, 2},
		{"global.get of one that is not Mut", typeBigI, "r3 = global.get 1; return r3", nil, give(math.MaxUint64 - 6), 0, 2},
		{"global.get of I32 below 0", typeI, "r3 = global.get 3; return r3", nil, give(1<<32 - 2), 0, 2},
		{"global.set", typeBigI, "r0 = const -9; global.set r0 2; r1 = global.get 2; return r1", nil, give(math.MaxUint64 - 8), 0, 4},
		{"global.set of no other", typeI, "r0 = const -9; global.set r0 2; r1 = global.get 0; return r1", nil, give(5), 0, 4},
		{"global.set leaves its register", typeI, "r0 = const 9; global.set r0 0; return r0", nil, give(9), 0, 3},
		{"what was got stays", typeI, "r1 = global.get 0; r0 = const 9; global.set r0 0; return r1", nil, give(5), 0, 4},
	})
}

func TestMemoryPages(t *testing.T) {
	holdAll(t, []trial{
		{"memory.size", typeI, "r4 = memory.size; return r4", nil, give(1), 0, 2},
		{"memory.grow by 0", typeII, "r4 = memory.grow r0; return r4", with(0), give(1), 0, 2},
		{"memory.grow by 1", typeII, "r4 = memory.grow r0; return r4", with(1), give(1), 0, 2},
		{"memory.grow by all", typeII, "r4 = memory.grow r0; r4 = memory.size; return r4", with(2), give(3), 0, 3},
		{"memory.grow by one too many", typeII, "r4 = memory.grow r0; return r4", with(3), give(1<<32 - 1), 0, 2},
		{"memory.grow by 2^32 - 1", typeII, "r4 = memory.grow r0; return r4", with(1<<32 - 1), give(1<<32 - 1), 0, 2},
		{"memory.grow in vain changes nothing", typeII, "r4 = memory.grow r0; r4 = memory.size; return r4", with(3), give(1), 0, 3},
		{"memory.grow when all are there", typeII, "r4 = memory.grow r0; r4 = memory.grow r0; return r4", with(2), give(1<<32 - 1), 0, 3},
		{"a new page has noughts", typeII, "r4 = memory.grow r0; r5 = const 8188; r4 = i32.load r5 +0; return r4", with(1), give(0), 0, 4},
		{"a new page has an end", typeII, "r4 = memory.grow r0; r5 = const 8189; r4 = i32.load r5 +0; return r4", with(1), nil, api.Bounds, 3},
	})
}

// TestGrowOfMoreBits: memory.grow takes an I32. Of a register that holds more the upper 32 bits are left out, be they laid by a const, an argument or an instruction of I64.
func TestGrowOfMoreBits(t *testing.T) {
	const grow = "r4 = memory.grow r0; r5 = memory.size; r6 = const 16; r5 = i64.mul r5 r6; r4 = i64.add r4 r5; return r4"
	for _, c := range []struct {
		name         string
		lower        uint64
		gives, pages uint64
	}{
		{"nothing is asked for", 0, 1, 1},
		{"it grows", 1, 1, 2},
		{"it grows to all", 2, 1, 3},
		{"one too many", 3, 1<<32 - 1, 1},
		{"far too many", 1 << 31, 1<<32 - 1, 1},
		{"the most of 32 bits", 1<<32 - 1, 1<<32 - 1, 1},
	} {
		want := give(c.gives + 16*c.pages)
		for _, upper := range []uint64{0, 1, 2, 1 << 31, 1<<32 - 1} {
			n := upper<<32 | c.lower
			name := fmt.Sprintf("%s: %d", c.name, n)
			holdAll(t, []trial{
				{name, typeBigII, grow, with(n), want, 0, 6},
				{name + ", of a const", typeBigI, fmt.Sprintf("r0 = const %d; ", int64(n)) + grow, nil, want, 0, 7},
				{name + ", of an i64.sub", typeBigII, "r1 = const 1; r0 = i64.sub r0 r1; " + grow, with(n + 1), want, 0, 8},
				{name + ", which stays in its register", typeBigII, "r4 = memory.grow r0; return r0", with(n), give(n), 0, 2},
			})
		}
	}
	holdAll(t, []trial{
		{"to its own register", typeBigII, "r0 = memory.grow r0; return r0", with(1<<32 + 1), give(1), 0, 2},
		{"once and again", typeBigII, "r4 = memory.grow r0; r4 = memory.grow r0; return r4", with(1<<32 + 1), give(2), 0, 3},
		{"once too often", typeBigII, "r4 = memory.grow r0; r4 = memory.grow r0; r4 = memory.grow r0; return r4", with(1<<32 + 1), give(1<<32 - 1), 0, 4},
		{"the new page is there", typeBigII, "r4 = memory.grow r0; r5 = const 8188; r4 = i32.load r5 +0; return r4", with(1<<32 + 1), give(0), 0, 4},
		{"no page is there", typeBigII, "r4 = memory.grow r0; r5 = const 4096; r4 = i32.load r5 +0; return r4", with(1 << 32), nil, api.Bounds, 3},
		{"of what was loaded", typeBigI, "r0 = const 4294967297; i64.store r7 r0 +0; r0 = i64.load r7 +0; r0 = memory.grow r0; r0 = memory.size; return r0", nil, give(2), 0, 6},
	})
}

func TestLoads(t *testing.T) {
	// bench has 81 92 a3 b4 c5 d6 e7 f8 from 8 on.
	loads := map[string]uint64{
		"i32.load": 0xb4a39281, "i64.load": 0xf8e7d6c5b4a39281,
		"i32.load8_s": 0xffffff81, "i32.load8_u": 0x81, "i32.load16_s": 0xffff9281, "i32.load16_u": 0x9281,
		"i64.load8_s": 0xffffffffffffff81, "i64.load8_u": 0x81, "i64.load16_s": 0xffffffffffff9281, "i64.load16_u": 0x9281,
		"i64.load32_s": 0xffffffffb4a39281, "i64.load32_u": 0xb4a39281,
	}
	for name, want := range loads {
		op, _ := ops.Op(name)
		n, _, _ := ops.Bytes(op)
		last := api.PageSize - n
		load := func(at, offset int) string {
			return fmt.Sprintf("r1 = const %d; r2 = %s r1 +%d; return r2", at, name, offset)
		}
		holdAll(t, []trial{
			{name, typeBigI, load(8, 0), nil, give(want), 0, 3},
			{"offset", typeBigI, load(3, 5), nil, give(want), 0, 3},
			{"an address of more than 32 bits", typeBigI, load(1<<32+8, 0), nil, give(want), 0, 3},
			{"an address far below 0", typeBigI, load(-1<<32+3, 5), nil, give(want), 0, 3},
			{"the last place", typeBigI, load(last, 0), nil, give(0), 0, 3},
			{"one further", typeBigI, load(last+1, 0), nil, nil, api.Bounds, 2},
			{"the last place by an offset", typeBigI, load(1, last-1), nil, give(0), 0, 3},
			{"one further by an offset", typeBigI, load(1, last), nil, nil, api.Bounds, 2},
			{"an address below 0 is far beyond", typeBigI, load(-1, 9), nil, nil, api.Bounds, 2},
			{"the greatest offset", typeBigI, load(9, math.MaxUint32), nil, nil, api.Bounds, 2},
		})
	}
	wantAll(t, loads, func(name string) bool { return strings.Contains(name, "load") })
}

func TestStores(t *testing.T) {
	stores := map[string]int{"i32.store": 4, "i64.store": 8, "i32.store8": 1, "i32.store16": 2, "i64.store8": 1, "i64.store16": 2, "i64.store32": 4}
	for name, n := range stores {
		// What is stored has the bytes 88 77 66 55 44 33 22 11, of i32, too: its lowest ones are stored.
		store := func(at, offset int) string {
			return fmt.Sprintf("r1 = const %d; r2 = const 1234605616436508552; %s r1 r2 +%d; r3 = const %d; ", at, name, offset, at+offset)
		}
		mask := uint64(1)<<(8*n) - 1
		want := uint64(0xf8e7d6c5b4a39281)&^mask | 0x1122334455667788&mask
		last := api.PageSize - n
		holdAll(t, []trial{
			{name, typeBigI, store(8, 0) + "r3 = i64.load r3 +0; return r3", nil, give(want), 0, 6},
			{"offset", typeBigI, store(2, 6) + "r3 = i64.load r3 +0; return r3", nil, give(want), 0, 6},
			{"an address of more than 32 bits", typeBigI, store(1<<32+2, 6) + "r3 = i64.load r3 +0; return r3", nil, give(want), 0, 6},
			{"nothing ahead", typeBigI, store(8, 0) + "r3 = i64.load r7 +0; return r3", nil, give(0), 0, 6},
			{"what it takes stays", typeBigI, store(8, 0) + "r1 = i64.add r1 r2; return r1", nil, give(0x1122334455667788 + 8), 0, 6},
			{"the last place", typeBigI, store(last, 0) + "r3 = i64.load8_u r3 +0; return r3", nil, give(0x88), 0, 6},
			{"one further", typeBigI, store(last+1, 0) + "return r3", nil, nil, api.Bounds, 3},
			{"one further by an offset", typeBigI, store(1, last) + "return r3", nil, nil, api.Bounds, 3},
			{"an address below 0 is far beyond", typeBigI, store(-1, 9) + "return r3", nil, nil, api.Bounds, 3},
		})
	}
	wantAll(t, stores, func(name string) bool { return strings.Contains(name, "store") })
}

// wantAll wants that each instruction of a kind stands in a map.
func wantAll[T any](t *testing.T, l map[string]T, of func(name string) bool) {
	t.Helper()
	for op := range 256 {
		name := ops.Name(byte(op))
		if _, ok := l[name]; ok != of(name) {
			t.Errorf("%s: %v", name, ok)
		}
	}
}

// TestTrapGivesNothing: what traps has done nothing itself, a store's bytes that would be there neither, and gives nothing that is seen later.
func TestTrapGivesNothing(t *testing.T) {
	for _, c := range []struct {
		text string
		trap api.Trap
	}{
		{"r0 = i32.div_s r0 r1", api.Zero},
		{"r0 = i64.rem_u r0 r1", api.Zero},
		{"r0 = const -9223372036854775808; r1 = const -1; r0 = i64.div_s r0 r1", api.Overflow},
		{"r0 = const 4093; r0 = i32.load r0 +0", api.Bounds},
		{"r0 = const 4093; r1 = const -1; i32.store r0 r1 +0", api.Bounds},
		{"r0 = const 4089; r1 = const -1; i64.store r0 r1 +0", api.Bounds},
		{"r0 = const 6; call_indirect r0 0", api.Element},
		{"r0 = const 1; r0 = call_indirect r0 1", api.Mismatch},
		{"call 5", api.Unreachable},
	} {
		x := trial{typ: typeI, text: c.text + "; global.set r0 0; call 1; return r0"}.machine(t)
		before, globals := bytesOf(t, x.State()), slices.Clone(x.State().Globals)
		if o := call(t, x, 0, nil, plenty); o.Trap != c.trap || len(o.Values) > 0 {
			t.Errorf("%s: %v, want the trap %d alone", c.text, o, c.trap)
		}
		if !slices.Equal(bytesOf(t, x.State()), before) || !slices.Equal(x.State().Globals, globals) {
			t.Errorf("%s: the state was changed", c.text)
		}
	}
}

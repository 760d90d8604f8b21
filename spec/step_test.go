package spec_test

import (
	"fmt"
	"math"
	"slices"
	"strings"
	"testing"

	"mandrel/api"
	"mandrel/num"
	"mandrel/ops"
)

// SP2: each instruction that the next one comes behind.

// constant notes a const of a kind.
func constant(k api.Kind, n int64) string {
	if k == api.I32 {
		return fmt.Sprintf("i32.const %d ", int32(n))
	}
	return fmt.Sprintf("i64.const %d ", n)
}

// typeGiving is the type of bench that takes nothing and gives a kind.
func typeGiving(k api.Kind) uint32 {
	return map[api.Kind]uint32{api.None: typeNone, api.I32: typeI, api.I64: typeBigI}[k]
}

// TestNumbersOne: each instruction of numbers once, by what chapter 2 says of it.
func TestNumbersOne(t *testing.T) {
	seen := map[string]int{}
	for _, line := range strings.Split(strings.TrimSpace(`
i32.eqz 0 = 1
i32.eq 3 4 = 0
i32.ne 3 4 = 1
i32.lt_s -1 1 = 1
i32.lt_u -1 1 = 0
i32.gt_s -1 1 = 0
i32.gt_u -1 1 = 1
i32.le_s -1 1 = 1
i32.le_u -1 1 = 0
i32.ge_s -1 1 = 0
i32.ge_u -1 1 = 1
i64.eqz 4294967296 = 0
i64.eq 4294967296 0 = 0
i64.ne 4294967296 0 = 1
i64.lt_s -1 1 = 1
i64.lt_u -1 1 = 0
i64.gt_s -1 1 = 0
i64.gt_u -1 1 = 1
i64.le_s -1 1 = 1
i64.le_u -1 1 = 0
i64.ge_s -1 1 = 0
i64.ge_u -1 1 = 1
i32.clz 1 = 31
i32.ctz 8 = 3
i32.popcnt -1 = 32
i32.add -1 3 = 2
i32.sub 3 5 = 4294967294
i32.mul 65536 65537 = 65536
i32.div_s -7 2 = 4294967293
i32.div_u -7 2 = 2147483644
i32.rem_s -7 2 = 4294967295
i32.rem_u -7 4 = 1
i32.and 12 10 = 8
i32.or 12 10 = 14
i32.xor 12 10 = 6
i32.shl 3 33 = 6
i32.shr_s -8 1 = 4294967292
i32.shr_u -8 1 = 2147483644
i32.rotl -2147483647 1 = 3
i32.rotr 3 1 = 2147483649
i64.clz 1 = 63
i64.ctz 8 = 3
i64.popcnt -1 = 64
i64.add -1 3 = 2
i64.sub 3 5 = 18446744073709551614
i64.mul 4294967296 4294967297 = 4294967296
i64.div_s -7 2 = 18446744073709551613
i64.div_u -7 2 = 9223372036854775804
i64.rem_s -7 2 = 18446744073709551615
i64.rem_u -7 4 = 1
i64.and 12 10 = 8
i64.or 12 10 = 14
i64.xor 12 10 = 6
i64.shl 3 65 = 6
i64.shr_s -8 1 = 18446744073709551612
i64.shr_u -8 1 = 9223372036854775804
i64.rotl -9223372036854775807 1 = 3
i64.rotr 3 1 = 9223372036854775809
i32.wrap_i64 -4294967295 = 1
i64.extend_i32_s -1 = 18446744073709551615
i64.extend_i32_u -1 = 4294967295`), "\n") {
		words := strings.Fields(line)
		op, err := ops.Op(words[0])
		if err != nil {
			t.Fatal(line)
		}
		sign, _ := ops.Sign(op)
		text, n := "", len(sign.Params)
		for i, k := range sign.Params {
			text += map[api.Kind]string{api.I32: "i32", api.I64: "i64"}[k] + ".const " + words[1+i] + " "
		}
		var want uint64
		if _, err := fmt.Sscan(words[2+n], &want); err != nil || len(words) != 3+n {
			t.Fatal(line)
		}
		seen[words[0]]++
		hold(t, trial{line, typeGiving(sign.Result), text + words[0], nil, give(want), 0, n + 1})
	}
	for op := range 256 {
		_, one := num.One(byte(op), 0)
		_, _, two := num.Two(byte(op), 0, 0)
		if (one == nil || two == nil) != (seen[ops.Name(byte(op))] == 1) {
			t.Errorf("%#x: %d times", op, seen[ops.Name(byte(op))])
		}
	}
}

// TestNumbers: all of them, of all pairs of edges, by layer 2.
func TestNumbers(t *testing.T) {
	edges := []int64{0, 1, -1, 2, 7, 31, 32, 33, 63, 64, math.MaxInt32, math.MinInt32, math.MaxUint32, 1 << 32, math.MaxInt64, math.MinInt64}
	for op := range 256 {
		sign, err := ops.Sign(byte(op))
		form, _ := ops.Form(byte(op))
		if err != nil || form != ops.Plain {
			continue
		}
		k, name := sign.Params[0], ops.Name(byte(op))
		for _, x := range edges {
			first, _ := num.Value(k, x)
			if v, err := num.One(byte(op), first); err == nil {
				wantNumber(t, constant(k, x)+name, sign.Result, v, 0, 2)
				continue
			}
			for _, y := range edges {
				second, _ := num.Value(k, y)
				v, trap, err := num.Two(byte(op), first, second)
				if err != nil {
					t.Fatalf("%s: %v", name, err)
				}
				wantNumber(t, constant(k, x)+constant(k, y)+name, sign.Result, v, trap, 3)
			}
		}
	}
}

// wantNumber holds a text against the value that it gives, or the trap.
func wantNumber(t *testing.T, text string, k api.Kind, v uint64, trap api.Trap, used int) {
	t.Helper()
	c := trial{text: text, typ: typeGiving(k), trap: trap, used: used}
	if trap == api.Well {
		c.values = give(v)
	}
	if got := call(t, machine(t, c.module()), 0, nil, plenty); !same(got, c.want()) {
		t.Errorf("%s: %v, want %v", text, got, c.want())
	}
}

func TestTrapsOfNumbers(t *testing.T) {
	var l []trial
	for _, kind := range []string{"i32", "i64"} {
		least := map[string]string{"i32": "-2147483648", "i64": "-9223372036854775808"}[kind]
		typ := map[string]uint32{"i32": typeI, "i64": typeBigI}[kind]
		for _, op := range []string{"div_s", "div_u", "rem_s", "rem_u"} {
			l = append(l, trial{"by 0", typ, fmt.Sprintf("%s.const 7 %s.const 0 %s.%s", kind, kind, kind, op), nil, nil, api.Zero, 3})
		}
		l = append(l,
			trial{"the least by -1", typ, fmt.Sprintf("%s.const %s %s.const -1 %s.div_s", kind, least, kind, kind), nil, nil, api.Overflow, 3},
			trial{"the least by -1, what is left", typ, fmt.Sprintf("%s.const %s %s.const -1 %s.rem_s", kind, least, kind, kind), nil, give(0), 0, 3})
	}
	holdAll(t, l)
}

func TestPlain(t *testing.T) {
	holdAll(t, []trial{
		{"nothing", typeNone, "", nil, nil, 0, 0},
		{"unreachable", typeNone, "unreachable", nil, nil, api.Unreachable, 1},
		{"unreachable with a value", typeI, "i32.const 1 unreachable nop", nil, nil, api.Unreachable, 2},
		{"nop", typeNone, "nop nop nop", nil, nil, 0, 3},
		{"drop", typeI, "i32.const 7 i64.const 8 drop", nil, give(7), 0, 3},
		{"select the first", typeI, "i32.const 7 i32.const 8 i32.const 1 select", nil, give(7), 0, 4},
		{"select the second", typeI, "i32.const 7 i32.const 8 i32.const 0 select", nil, give(8), 0, 4},
		{"select by any that is not 0", typeBigI, "i64.const 7 i64.const 8 i32.const -2147483648 select", nil, give(7), 0, 4},
		{"select of I64", typeBigI, "i64.const -7 i64.const -8 i32.const 0 select", nil, give(math.MaxUint64 - 7), 0, 4},
		{"select above others", typeI, "i32.const 100 i32.const 7 i32.const 8 i32.const 0 select i32.sub", nil, give(92), 0, 6},
		{"i32.const", typeI, "i32.const 7", nil, give(7), 0, 1},
		{"i32.const -1", typeI, "i32.const -1", nil, give(1<<32 - 1), 0, 1},
		{"the least i32.const", typeI, "i32.const -2147483648", nil, give(1 << 31), 0, 1},
		{"the greatest i32.const", typeI, "i32.const 2147483647", nil, give(1<<31 - 1), 0, 1},
		{"i64.const", typeBigI, "i64.const 4294967296", nil, give(1 << 32), 0, 1},
		{"i64.const -1", typeBigI, "i64.const -1", nil, give(math.MaxUint64), 0, 1},
		{"the least i64.const", typeBigI, "i64.const -9223372036854775808", nil, give(1 << 63), 0, 1},
		{"the greatest i64.const", typeBigI, "i64.const 9223372036854775807", nil, give(1<<63 - 1), 0, 1},
	})
}

func TestLocalsAndGlobals(t *testing.T) {
	holdAll(t, []trial{
		{"the first argument", typeTwo, "local.get 0", with(7, 8), give(7), 0, 1},
		{"the second argument", typeTwo, "local.get 1", with(7, 8), give(8), 0, 1},
		{"an argument of I64", typeMixed, "local.get 1", with(7, math.MaxUint64, 9), give(math.MaxUint64), 0, 1},
		{"locals are noughts", typeTwo, "local.get 2", with(7, 8), give(0), 0, 1},
		{"locals of I64 are noughts", typeMixed, "local.get 4", with(7, 8, 9), give(0), 0, 1},
		{"local.set", typeTwo, "i32.const 5 i32.const 9 local.set 1 local.get 1 i32.sub", with(7, 8), give(1<<32 - 4), 0, 5},
		{"local.set of no other", typeTwo, "i32.const 9 local.set 1 local.get 0 local.get 2 i32.sub", with(7, 8), give(7), 0, 5},
		{"local.set of a local", typeMixed, "i64.const -5 local.set 4 local.get 4 local.get 1 i64.add", with(7, 8, 9), give(3), 0, 5},
		{"local.tee", typeTwo, "i32.const 9 local.tee 2 local.get 2 i32.add", with(7, 8), give(18), 0, 4},
		{"local.tee keeps what is beneath", typeTwo, "i32.const 5 i32.const 9 local.tee 0 i32.sub local.get 0 i32.sub", with(7, 8), give(1<<32 - 13), 0, 6},
		{"local.get ahead of local.set", typeII, "local.get 0 i32.const 1 local.set 0 local.get 0 i32.sub", with(7), give(6), 0, 5},
		{"global.get", typeI, "global.get 0", nil, give(5), 0, 1},
		{"global.get of one that is not Mut", typeBigI, "global.get 1", nil, give(math.MaxUint64 - 6), 0, 1},
		{"global.get of I32 below 0", typeI, "global.get 3", nil, give(1<<32 - 2), 0, 1},
		{"global.set", typeBigI, "i64.const 1 global.get 2 i64.add global.set 2 global.get 2", nil, give(1 << 63), 0, 5},
		{"global.set of no other", typeI, "i64.const 1 global.set 2 global.get 0", nil, give(5), 0, 3},
	})
}

// TestLocalsOfACall: each one begins with noughts, in a call that stood where another one was, too.
func TestLocalsOfACall(t *testing.T) {
	m := bench(typeI, code("call 8 call 8 i32.add call 8 i32.add"))
	m.Funcs = append(m.Funcs, api.Func{Type: typeI, Locals: []api.Kind{api.I32, api.I32}, Body: code("local.get 0 i32.const 1 i32.add local.tee 0 local.get 1 i32.const 10 i32.add local.tee 1 i32.add")})
	if o := call(t, machine(t, m), 0, nil, plenty); o.Trap != api.Well || len(o.Values) != 1 || o.Values[0] != 33 {
		t.Errorf("%v, want 33", o)
	}
}

func TestMemoryPages(t *testing.T) {
	holdAll(t, []trial{
		{"memory.size", typeI, "memory.size", nil, give(1), 0, 1},
		{"memory.grow by 0", typeI, "i32.const 0 memory.grow", nil, give(1), 0, 2},
		{"memory.grow by 1", typeI, "i32.const 1 memory.grow", nil, give(1), 0, 2},
		{"memory.grow by all", typeI, "i32.const 2 memory.grow memory.size i32.const 16 i32.mul i32.add", nil, give(49), 0, 6},
		{"memory.grow by one too many", typeI, "i32.const 3 memory.grow", nil, give(1<<32 - 1), 0, 2},
		{"memory.grow by 2^32 - 1", typeI, "i32.const -1 memory.grow", nil, give(1<<32 - 1), 0, 2},
		{"memory.grow in vain changes nothing", typeI, "i32.const 3 memory.grow drop memory.size", nil, give(1), 0, 4},
		{"memory.grow when all are there", typeI, "i32.const 2 memory.grow drop i32.const 1 memory.grow", nil, give(1<<32 - 1), 0, 5},
		{"a new page has noughts", typeI, "i32.const 1 memory.grow drop i32.const 8188 i32.load 0", nil, give(0), 0, 5},
		{"a new page has an end", typeI, "i32.const 1 memory.grow drop i32.const 8189 i32.load 0", nil, nil, api.Bounds, 5},
	})
	// Without a most, 16 pages may be.
	m := bench(typeI, code("i32.const 15 memory.grow drop i32.const 1 memory.grow memory.size i32.add"))
	m.Memories = []api.Limits{{Min: 1}}
	if o := call(t, machine(t, m), 0, nil, plenty); len(o.Values) != 1 || o.Values[0] != 15 {
		t.Errorf("up to 16 pages: %v, want 15", o)
	}
}

// TestGrowOfMoreBits: memory.grow takes an I32. Of a value that has more, which only whoever has the state can lay, the upper 32 bits are left out.
func TestGrowOfMoreBits(t *testing.T) {
	for _, c := range []struct{ n, gives, pages uint64 }{
		{1 << 32, 1, 1}, {1<<32 + 1, 1, 2}, {1<<32 + 2, 1, 3}, {1<<32 + 3, 1<<32 - 1, 1}, {1<<64 - 1<<32, 1, 1}, {1<<64 - 1<<32 + 1, 1, 2}, {1<<64 - 1, 1<<32 - 1, 1},
	} {
		x := machine(t, bench(typeI, code("global.get 0 memory.grow")))
		x.State().Globals[0] = c.n
		o := call(t, x, 0, nil, plenty)
		if pages := x.State().Mem.Pages(); !slices.Equal(o.Values, give(c.gives)) || uint64(pages) != c.pages {
			t.Errorf("by %d: %v, pages %d, want %d, pages %d", c.n, o, pages, c.gives, c.pages)
		}
	}
}

func TestLoads(t *testing.T) {
	// bench has 81 92 a3 b4 c5 d6 e7 f8 from 8 on.
	for name, want := range map[string]uint64{
		"i32.load": 0xb4a39281, "i64.load": 0xf8e7d6c5b4a39281,
		"i32.load8_s": 0xffffff81, "i32.load8_u": 0x81, "i32.load16_s": 0xffff9281, "i32.load16_u": 0x9281,
		"i64.load8_s": 0xffffffffffffff81, "i64.load8_u": 0x81, "i64.load16_s": 0xffffffffffff9281, "i64.load16_u": 0x9281,
		"i64.load32_s": 0xffffffffb4a39281, "i64.load32_u": 0xb4a39281,
	} {
		op, _ := ops.Op(name)
		sign, _ := ops.Sign(op)
		n, _, _ := ops.Bytes(op)
		typ, last := typeGiving(sign.Result), api.PageSize-n
		holdAll(t, []trial{
			{name, typ, "i32.const 8 " + name + " 0", nil, give(want), 0, 2},
			{"offset", typ, "i32.const 3 " + name + " 0 +5", nil, give(want), 0, 2},
			{"the last place", typ, fmt.Sprintf("i32.const %d %s 0", last, name), nil, give(0), 0, 2},
			{"one further", typ, fmt.Sprintf("i32.const %d %s 0", last+1, name), nil, nil, api.Bounds, 2},
			{"the last place by an offset", typ, fmt.Sprintf("i32.const 1 %s 0 +%d", name, last-1), nil, give(0), 0, 2},
			{"one further by an offset", typ, fmt.Sprintf("i32.const 1 %s 0 +%d", name, last), nil, nil, api.Bounds, 2},
			{"an address below 0 is far beyond", typ, "i32.const -1 " + name + " 0 +9", nil, nil, api.Bounds, 2},
			{"the greatest offset", typ, "i32.const 9 " + name + " 0 +4294967295", nil, nil, api.Bounds, 2},
		})
	}
}

func TestStores(t *testing.T) {
	for name, n := range map[string]int{"i32.store": 4, "i64.store": 8, "i32.store8": 1, "i32.store16": 2, "i64.store8": 1, "i64.store16": 2, "i64.store32": 4} {
		// What is stored has the bytes 88 77 66 55 44 33 22 11; loaded anew, with what stands behind and ahead of it.
		value := "i64.const 1234605616436508552 "
		if strings.HasPrefix(name, "i32") {
			value = "i32.const 1432778632 "
		}
		mask := uint64(1)<<(8*n) - 1
		want := uint64(0xf8e7d6c5b4a39281)&^mask | 0x1122334455667788&mask
		last := api.PageSize - n
		holdAll(t, []trial{
			{name, typeBigI, "i32.const 8 " + value + name + " 0 i32.const 8 i64.load 0", nil, give(want), 0, 5},
			{"offset", typeBigI, "i32.const 2 " + value + name + " 0 +6 i32.const 8 i64.load 0", nil, give(want), 0, 5},
			{"nothing ahead", typeBigI, "i32.const 8 " + value + name + " 0 i32.const 0 i64.load 0", nil, give(0), 0, 5},
			{"the last place", typeI, fmt.Sprintf("i32.const %d %s %s 0 i32.const %d i32.load8_u 0", last, value, name, last), nil, give(0x88), 0, 5},
			{"one further", typeNone, fmt.Sprintf("i32.const %d %s %s 0", last+1, value, name), nil, nil, api.Bounds, 3},
			{"one further by an offset", typeNone, fmt.Sprintf("i32.const 1 %s %s 0 +%d", value, name, last), nil, nil, api.Bounds, 3},
			{"an address below 0 is far beyond", typeNone, "i32.const -1 " + value + name + " 0 +9", nil, nil, api.Bounds, 3},
		})
	}
}

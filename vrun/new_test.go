package vrun_test

import (
	"math"
	"reflect"
	"slices"
	"testing"

	"mandrel/api"
	"mandrel/inst"
	"mandrel/notation"
	"mandrel/vcode"
	"mandrel/vrun"
)

// VR1.

// wantNone wants no machine, but a trap and an error, and that nothing is changed.
func wantNone(t *testing.T, what string, m api.Module, l []vcode.Code, trap api.Trap, want api.Errno) {
	t.Helper()
	before := told(m, l)
	x, got, err := vrun.New(m, l)
	if x != nil || got != trap || number(err) != want {
		t.Errorf("%s: %v, %d, %v, want the trap %d and the error %d", what, x, got, err, trap, want)
	}
	if told(m, l) != before {
		t.Errorf("%s: what was handed in was changed", what)
	}
}

// TestNewOfWrongModules: layer 9's error comes first, whatever the code is.
func TestNewOfWrongModules(t *testing.T) {
	for _, c := range []struct {
		name   string
		change func(m *api.Module)
		trap   api.Trap
		want   api.Errno
	}{
		{"a table above its limit", func(m *api.Module) { m.Tables[0].Min = api.MaxTable + 1 }, 0, api.ErrLimit},
		{"a memory above its limit", func(m *api.Module) { m.Memories[0] = api.Limits{Min: api.MaxPages + 1} }, 0, api.ErrLimit},
		{"two memories", func(m *api.Module) { m.Memories = append(m.Memories, m.Memories[0]) }, 0, api.ErrInvalid},
		{"a type that is not there", func(m *api.Module) { m.Funcs[3].Type = 9 }, 0, api.ErrInvalid},
		{"a kind that is none", func(m *api.Module) { m.Funcs[3].Locals = []api.Kind{1} }, 0, api.ErrInvalid},
		{"a body that may not run, of code that may", func(m *api.Module) { m.Funcs[5].Body = notation.Code("drop") }, 0, api.ErrInvalid},
		{"a limit ahead of a body", func(m *api.Module) { m.Funcs[0].Body, m.Tables[0].Min = notation.Code("drop"), math.MaxUint32 }, 0, api.ErrLimit},
		{"an Elem beyond the table", func(m *api.Module) { m.Elems[0].Offset.N = 2 }, api.Element, api.ErrTrap},
		{"a Data beyond the memory", func(m *api.Module) { m.Datas[0].Offset.N = 4089 }, api.Bounds, api.ErrTrap},
		{"an Elem ahead of a Data", func(m *api.Module) { m.Elems[0].Offset.N, m.Datas[0].Offset.N = 2, 4089 }, api.Element, api.ErrTrap},
	} {
		m, l := bench(typeNone), codes(typeNone, "return")
		c.change(&m)
		wantNone(t, c.name, m, l, c.trap, c.want)
		wantNone(t, c.name+", without code", m, nil, c.trap, c.want)
		wantNone(t, c.name+", with too much code", m, append(l, l[0]), c.trap, c.want)
		wantNone(t, c.name+", with wrong code", m, make([]vcode.Code, len(l)), c.trap, c.want)
	}
}

func TestNewOfFewerAndMore(t *testing.T) {
	m, l := bench(typeNone), codes(typeNone, "return")
	for n := range l {
		wantNone(t, "fewer", m, l[:n], 0, api.ErrArg)
	}
	wantNone(t, "one more", m, append(codes(typeNone, "return"), l[0]), 0, api.ErrArg)
	wantNone(t, "one for no function", api.Module{}, l[:1], 0, api.ErrArg)
	wantNone(t, "one that may not be, for no function", api.Module{}, make([]vcode.Code, 1), 0, api.ErrArg)
	// As many as there are is asked ahead of what they are.
	wrong := codes(typeNone, "r0 = global.get 9; return")
	wantNone(t, "fewer, and a wrong one", m, wrong[:3], 0, api.ErrArg)
	wantNone(t, "more, and a wrong one", m, append(wrong, l[0]), 0, api.ErrArg)
	machine(t, m, l)
}

// wrongCodes are what can be no code of bench's function funcTold, each with what layer 11 says of it.
func wrongCodes() []struct {
	name string
	c    vcode.Code
	want api.Errno
} {
	return []struct {
		name string
		c    vcode.Code
		want api.Errno
	}{
		{"nothing", vcode.Code{}, api.ErrArg},
		{"no end", code(typeNone, "r0 = const 1"), api.ErrArg},
		{"a register that is not there", code(typeNone, "r8 = const 1; return"), api.ErrArg},
		{"a block that is not there", code(typeNone, "jump -> 1"), api.ErrArg},
		{"an add of one", code(typeNone, "r0 = i32.add r0; return"), api.ErrArg},
		{"a parameter", code(typeTakesI, "return"), api.ErrInvalid},
		{"a result", code(typeI, "return r0"), api.ErrInvalid},
		{"no such global", code(typeNone, "r0 = global.get 4; return"), api.ErrInvalid},
		{"a global that stays", code(typeNone, "global.set r0 1; return"), api.ErrInvalid},
		{"no such function", code(typeNone, "call 8; return"), api.ErrInvalid},
		{"a call with too few", code(typeNone, "r0 = call r0 2; return"), api.ErrInvalid},
		{"a call that gives what there is not", code(typeNone, "r0 = call 1; return"), api.ErrInvalid},
		{"no such type", code(typeNone, "call_indirect r0 9; return"), api.ErrInvalid},
	}
}

// TestNewOfWrongCode: the first one's error, be it Check's or Fits's.
func TestNewOfWrongCode(t *testing.T) {
	m := bench(typeNone)
	for _, c := range wrongCodes() {
		l := codes(typeNone, "return")
		l[funcTold] = c.c
		if err := vcode.Fits(m, funcTold, c.c); number(err) != c.want {
			t.Errorf("%s: Fits says %v", c.name, err)
		}
		wantNone(t, c.name, m, l, 0, c.want)
		for _, other := range wrongCodes() {
			l[funcBack] = other.c
			wantNone(t, c.name+", and "+other.name+" later", m, l, 0, c.want)
		}
	}
	l := codes(typeNone, "return")
	l[funcLess], l[funcDigits] = l[funcDigits], l[funcLess]
	wantNone(t, "each other's", m, l, 0, api.ErrInvalid)
	// Without what the module has, code that is right becomes wrong.
	m = bench(typeNone)
	m.Memories, m.Datas, m.Exports = nil, nil, nil
	wantNone(t, "a store without a memory", m, codes(typeNone, "return"), 0, api.ErrInvalid)
	m = bench(typeNone)
	m.Tables, m.Elems = nil, nil
	wantNone(t, "an indirect call without a table", m, codes(typeNone, "call_indirect r0 0; return"), 0, api.ErrInvalid)
}

func TestNewAndState(t *testing.T) {
	for name, m := range map[string]api.Module{
		"nothing":        {},
		"all":            bench(typeNone),
		"a memory alone": {Memories: []api.Limits{{Min: 2}}},
		"a table alone":  {Tables: []api.Limits{{Min: 3}}},
	} {
		l := codes(typeNone, "return")[:len(m.Funcs)]
		want, _, err := inst.New(m)
		if err != nil {
			t.Fatalf("%s: %v", name, err)
		}
		x := machine(t, m, l)
		if !inst.Same(x.State(), want) {
			t.Errorf("%s: the state is %v, want %v", name, x.State(), want)
		}
		if x.State() == nil || x.State() != x.State() {
			t.Errorf("%s: the state is not the machine's own one", name)
		}
		if machine(t, m, l).State() == x.State() {
			t.Errorf("%s: two machines have one state", name)
		}
	}
}

func TestNilMachine(t *testing.T) {
	var x *vrun.Machine
	if s := x.State(); s != nil {
		t.Errorf("State: %v", s)
	}
	for _, fuel := range []int{-1, 0, 10} {
		o, err := x.Call(0, nil, fuel)
		if !reflect.DeepEqual(o, inst.Outcome{}) || number(err) != api.ErrArg {
			t.Errorf("Call: %v, %v, want ErrArg", o, err)
		}
	}
}

// TestStateIsTheOwnOne: what is done to it, the next call finds.
func TestStateIsTheOwnOne(t *testing.T) {
	x := trial{typ: typeI, text: "r0 = global.get 0; r1 = i32.load r7 +0; r0 = i32.add r0 r1; r1 = memory.size; r0 = i32.add r0 r1; return r0"}.machine(t)
	if o := call(t, x, 0, nil, plenty); !slices.Equal(o.Values, give(6)) {
		t.Fatalf("at first: %v", o)
	}
	s := x.State()
	s.Globals[0] = 100
	s.Mem.Store(0, 0, 4, 1000)
	s.Mem.Grow(1)
	if o := call(t, x, 0, nil, plenty); !slices.Equal(o.Values, give(1102)) {
		t.Errorf("changed: %v, want 1102", o)
	}
	x = trial{typ: typeNone, text: "r0 = const 6; call_indirect r0 0; return"}.machine(t)
	if o := call(t, x, 0, nil, plenty); o.Trap != api.Element {
		t.Errorf("no entry: %v", o)
	}
	x.State().Table[6] = funcTold
	if o := call(t, x, 0, nil, plenty); o.Trap != api.Well || x.State().Globals[0] != 6 {
		t.Errorf("a new entry: %v, global %d", o, x.State().Globals[0])
	}
}

// TestSpoiltState: whoever has the state can take parts out of it; calls end nevertheless.
func TestSpoiltState(t *testing.T) {
	for _, c := range []struct {
		text   string
		values []uint64
		trap   api.Trap
	}{
		{"r0 = global.get 0; return r0", give(0), 0},
		{"r0 = const 9; global.set r0 0; r0 = global.get 0; return r0", give(0), 0},
		{"r0 = memory.size; return r0", give(0), 0},
		{"r0 = memory.grow r0; return r0", give(1<<32 - 1), 0},
		{"r0 = i32.load r0 +0; return r0", nil, api.Bounds},
		{"i32.store r0 r0 +0; return r0", nil, api.Bounds},
		{"call_indirect r0 0; return r0", nil, api.Element},
	} {
		x := trial{typ: typeI, text: c.text}.machine(t)
		*x.State() = inst.State{}
		if o := call(t, x, 0, nil, plenty); !slices.Equal(o.Values, c.values) || o.Trap != c.trap {
			t.Errorf("%s: %v, want %v and %d", c.text, o, c.values, c.trap)
		}
	}
	for _, f := range []int{-2, 8, math.MaxInt, math.MinInt} {
		x := trial{typ: typeNone, text: "call_indirect r0 0; return"}.machine(t)
		x.State().Table[0] = f
		if o := call(t, x, 0, nil, plenty); o.Trap != api.Element || o.Used != 1 {
			t.Errorf("an entry %d: %v, want Element", f, o)
		}
	}
}

// spoil changes everything that a machine was made of, and that can be reached from there.
func spoil(m api.Module, l []vcode.Code) {
	for i := range m.Types {
		clear(m.Types[i].Params)
		m.Types[i] = api.Type{Result: api.I64}
	}
	for i := range m.Funcs {
		clear(m.Funcs[i].Locals)
		clear(m.Funcs[i].Body)
		m.Funcs[i] = api.Func{Type: 77}
	}
	for i := range m.Elems {
		clear(m.Elems[i].Funcs)
	}
	for i := range m.Datas {
		clear(m.Datas[i].Bytes)
	}
	clear(m.Tables)
	clear(m.Memories)
	clear(m.Globals)
	clear(m.Elems)
	for _, c := range l {
		for _, b := range c.Blocks {
			for _, in := range b.Ins {
				clear(in.Src)
			}
			clear(b.Ins)
			clear(b.Next)
		}
		clear(c.Blocks)
	}
	clear(l)
}

// some is code of typeII that has some of all.
const some = `r1 = const 3; r2 = const 4; r3 = call r0 r1 r2 3; table r0 -> 2 1 3
	block 1 depth 0; r4 = const 8; r4 = i32.load r4 +0; r3 = i64.add r3 r4; jump -> 3
	block 2 depth 0; call 1; unreachable
	block 3 depth 0; r5 = const 1; r6 = call_indirect r5 r3 r0 4; call 1; i32.store r0 r6 +40; branch r6 -> 4 2
	block 4 depth 0; return r6`

// TestNothingIsKept: a machine goes on as it was made, whatever is done later to what it was made of.
func TestNothingIsKept(t *testing.T) {
	for arg := uint64(1); arg < 4; arg++ {
		m, l := bench(typeII), codes(typeII, some)
		x, y := machine(t, m, l), machine(t, bench(typeII), codes(typeII, some))
		spoil(m, l)
		for range 2 {
			got, want := call(t, x, 0, with(arg), plenty), call(t, y, 0, with(arg), plenty)
			if !same(got, want) || got.Trap != api.Well || !inst.Same(x.State(), y.State()) {
				t.Errorf("%d: %v, want %v", arg, got, want)
			}
			// Nor does what was answered go on being used.
			clear(got.Values[:cap(got.Values)])
		}
		if _, err := x.Call(0, with(1<<32), plenty); number(err) != api.ErrArg {
			t.Errorf("2^32 for an I32 of a type that was changed later: %v", err)
		}
	}
}

// TestNothingIsChanged: neither module, nor code, nor arguments, nor the room behind these.
func TestNothingIsChanged(t *testing.T) {
	m, l := bench(typeII), codes(typeII, some)
	room := []uint64{2, 17, 18, 19, 20}
	before := told(m, l, room)
	x := machine(t, m, l)
	for fuel := range 60 {
		call(t, x, 0, room[:1], fuel)
		if _, err := x.Call(0, room, fuel); number(err) != api.ErrArg {
			t.Errorf("too many arguments: %v", err)
		}
	}
	if told(m, l, room) != before {
		t.Error("what was handed in was changed")
	}
}

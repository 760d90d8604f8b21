package spec_test

import (
	"math"
	"reflect"
	"slices"
	"testing"

	"mandrel/api"
	"mandrel/inst"
	"mandrel/spec"
)

// SP1.

func i32(n int64) api.Instr { return api.Instr{Op: 0x41, N: n} }
func i64(n int64) api.Instr { return api.Instr{Op: 0x42, N: n} }

// wrongModules are what may not run, each with a change to bench, and what layer 9 says of it.
func wrongModules() []struct {
	name   string
	change func(m *api.Module)
	trap   api.Trap
	want   api.Errno
} {
	return []struct {
		name   string
		change func(m *api.Module)
		trap   api.Trap
		want   api.Errno
	}{
		{"a table above its limit", func(m *api.Module) { m.Tables[0].Min = api.MaxTable + 1 }, 0, api.ErrLimit},
		{"a memory above its limit", func(m *api.Module) { m.Memories[0] = api.Limits{Min: api.MaxPages + 1} }, 0, api.ErrLimit},
		{"two memories", func(m *api.Module) { m.Memories = append(m.Memories, m.Memories[0]) }, 0, api.ErrInvalid},
		{"Min above Max", func(m *api.Module) { m.Memories[0].Min = 4 }, 0, api.ErrInvalid},
		{"a type that is not there", func(m *api.Module) { m.Funcs[3].Type = 9 }, 0, api.ErrInvalid},
		{"a kind that is none", func(m *api.Module) { m.Funcs[3].Locals = []api.Kind{1} }, 0, api.ErrInvalid},
		{"a body that may not run", func(m *api.Module) { m.Funcs[5].Body = code("drop") }, 0, api.ErrInvalid},
		{"the tested body", func(m *api.Module) { m.Funcs[0].Body = code("i32.const 1") }, 0, api.ErrInvalid},
		{"an Init of the other kind", func(m *api.Module) { m.Globals[0].Init = i64(0) }, 0, api.ErrInvalid},
		{"a limit ahead of a body", func(m *api.Module) {
			m.Funcs[0].Body, m.Tables[0].Min = code("drop"), math.MaxUint32
		}, 0, api.ErrLimit},
		{"a body ahead of a trap", func(m *api.Module) {
			m.Funcs[0].Body, m.Elems[0].Offset.N = code("drop"), 100
		}, 0, api.ErrInvalid},
		{"an Elem beyond the table", func(m *api.Module) { m.Elems[0].Offset.N = 2 }, api.Element, api.ErrTrap},
		{"an Elem below 0", func(m *api.Module) { m.Elems[0].Offset.N = -1 }, api.Element, api.ErrTrap},
		{"a Data beyond the memory", func(m *api.Module) { m.Datas[0].Offset.N = 4089 }, api.Bounds, api.ErrTrap},
		{"a Data below 0", func(m *api.Module) { m.Datas[0].Offset.N = -1 }, api.Bounds, api.ErrTrap},
		{"an Elem ahead of a Data", func(m *api.Module) { m.Elems[0].Offset.N, m.Datas[0].Offset.N = 2, 4089 }, api.Element, api.ErrTrap},
	}
}

func TestNewOfWrongModules(t *testing.T) {
	for _, c := range wrongModules() {
		m, before := bench(typeNone, nil), bench(typeNone, nil)
		c.change(&m)
		c.change(&before)
		x, trap, err := spec.New(m)
		if x != nil || trap != c.trap || number(err) != c.want {
			t.Errorf("%s: %v, %d, %v, want the trap %d and the error %d", c.name, x, trap, err, c.trap, c.want)
		}
		if !reflect.DeepEqual(m, before) {
			t.Errorf("%s: the module was changed", c.name)
		}
		if _, first, of := inst.New(m); first != trap || number(of) != number(err) {
			t.Errorf("%s: layer 9 says %d, %v", c.name, first, of)
		}
	}
}

func TestNewAndState(t *testing.T) {
	for name, m := range map[string]api.Module{
		"nothing":        {},
		"all":            bench(typeNone, nil),
		"a memory alone": {Memories: []api.Limits{{Min: 2}}, Datas: []api.Data{{Offset: i32(8192)}}},
		"a table alone":  {Tables: []api.Limits{{Min: 3}}},
		"globals":        {Globals: []api.Global{{Kind: api.I32, Init: i32(-1)}, {Kind: api.I64, Init: i64(-1)}}},
	} {
		want, _, err := inst.New(m)
		if err != nil {
			t.Fatalf("%s: %v", name, err)
		}
		x := machine(t, m)
		if !inst.Same(x.State(), want) {
			t.Errorf("%s: the state is %v, want %v", name, x.State(), want)
		}
		if x.State() == nil || x.State() != x.State() {
			t.Errorf("%s: the state is not the machine's own one", name)
		}
		if machine(t, m).State() == x.State() {
			t.Errorf("%s: two machines have one state", name)
		}
	}
}

func TestNilMachine(t *testing.T) {
	var x *spec.Machine
	if s := x.State(); s != nil {
		t.Errorf("State: %v", s)
	}
	o, err := x.Call(0, nil, 10)
	if !reflect.DeepEqual(o, inst.Outcome{}) || number(err) != api.ErrArg {
		t.Errorf("Call: %v, %v, want ErrArg", o, err)
	}
}

// TestStateIsTheOwnOne: what is done to it, the next call finds.
func TestStateIsTheOwnOne(t *testing.T) {
	x := machine(t, bench(typeI, code("global.get 0 i32.const 0 i32.load 0 i32.add memory.size i32.add")))
	if o := call(t, x, 0, nil, plenty); !slices.Equal(o.Values, give(6)) {
		t.Fatalf("at first: %v", o)
	}
	s := x.State()
	s.Globals[0] = 100
	s.Mem.Store(0, 0, 4, 1000)
	s.Mem.Grow(1)
	if o := call(t, x, 0, nil, plenty); !slices.Equal(o.Values, give(1102)) {
		t.Errorf("changed: %v, want 1102", o)
	}
	x = machine(t, bench(typeNone, code("i32.const 6 call_indirect 0")))
	if o := call(t, x, 0, nil, plenty); o.Trap != api.Element {
		t.Errorf("no entry: %v", o)
	}
	x.State().Table[entryNone] = funcTold
	if o := call(t, x, 0, nil, plenty); o.Trap != api.Well || x.State().Globals[0] != 6 {
		t.Errorf("a new entry: %v, global %d", o, x.State().Globals[0])
	}
}

// TestSpoiltState: whoever has the state can take parts out of it; calls end nevertheless.
func TestSpoiltState(t *testing.T) {
	for _, c := range []struct {
		text   string
		values []uint64
		trap   api.Trap
	}{
		{"global.get 0", give(0), 0},
		{"i32.const 9 global.set 0 global.get 0", give(0), 0},
		{"memory.size", give(0), 0},
		{"i32.const 0 memory.grow", give(1<<32 - 1), 0},
		{"i32.const 0 i32.load 0", nil, api.Bounds},
		{"i32.const 0 i32.const 0 i32.store 0 i32.const 0", nil, api.Bounds},
		{"i32.const 0 call_indirect 0 i32.const 0", nil, api.Element},
	} {
		x := machine(t, bench(typeI, code(c.text)))
		*x.State() = inst.State{}
		if o := call(t, x, 0, nil, plenty); !slices.Equal(o.Values, c.values) || o.Trap != c.trap {
			t.Errorf("%s: %v, want %v and %d", c.text, o, c.values, c.trap)
		}
	}
	for _, f := range []int{-2, 8, math.MaxInt, math.MinInt} {
		x := machine(t, bench(typeNone, code("i32.const 0 call_indirect 0")))
		x.State().Table[0] = f
		if o := call(t, x, 0, nil, plenty); o.Trap != api.Element || o.Used != 2 {
			t.Errorf("an entry %d: %v, want Element", f, o)
		}
	}
}

// spoil changes everything in a module that can be reached from it.
func spoil(m api.Module) {
	for i := range m.Types {
		for j := range m.Types[i].Params {
			m.Types[i].Params[j] = 1
		}
		m.Types[i] = api.Type{Result: api.I64}
	}
	for i := range m.Funcs {
		for j := range m.Funcs[i].Locals {
			m.Funcs[i].Locals[j] = 1
		}
		spoilCode(m.Funcs[i].Body)
		m.Funcs[i] = api.Func{Type: 77}
	}
	for i := range m.Elems {
		for j := range m.Elems[i].Funcs {
			m.Elems[i].Funcs[j] = 77
		}
	}
	for i := range m.Datas {
		clear(m.Datas[i].Bytes)
	}
	clear(m.Tables)
	clear(m.Memories)
	clear(m.Globals)
	clear(m.Elems)
}

func spoilCode(l []api.Instr) {
	for i := range l {
		spoilCode(l[i].Body)
		spoilCode(l[i].Else)
		clear(l[i].Labels)
		l[i] = api.Instr{Op: 0x00}
	}
}

// TestNothingIsKept: a machine goes on as it was made, whatever is done later to what it was made of.
func TestNothingIsKept(t *testing.T) {
	text := `local.get 0 i64.const 3 i32.const 4 call 3 i32.wrap_i64 local.set 1
		block ( loop ( block ( local.get 0 br_table 1 2 0 ; ) ) local.get 1 i32.const 1 i32.add local.set 1 )
		local.get 1 if i32 ( i32.const 8 i32.load 0 local.get 1 i32.add ) else ( unreachable )
		i32.const 0 if ( unreachable ) else ( call 1 )
		local.get 0 i32.const 1 call_indirect 4`
	for arg := uint64(1); arg < 4; arg++ {
		m := bench(typeII, code(text))
		x, y := machine(t, m), machine(t, bench(typeII, code(text)))
		spoil(m)
		args := with(arg)
		for range 2 {
			got, want := call(t, x, 0, args, plenty), call(t, y, 0, with(arg), plenty)
			if !same(got, want) || got.Trap != api.Well || !inst.Same(x.State(), y.State()) {
				t.Errorf("%d: %v, want %v", arg, got, want)
			}
			// Nor does what was answered go on being used.
			clear(got.Values[:cap(got.Values)])
		}
		if _, err := x.Call(0, with(1<<32), plenty); number(err) != api.ErrArg {
			t.Errorf("2^32 for an I32 of a type that was changed later: %v", err)
		}
	}
}

package valid_test

import (
	"math"
	"reflect"
	"slices"
	"strings"
	"testing"

	"mandrel/api"
	"mandrel/ops"
	"mandrel/valid"
)

// VA1: ErrArg.

// wantAnswers holds what Body and Height answer of a function against what they should.
func wantAnswers(t *testing.T, what string, m api.Module, f int, height int, want api.Errno) {
	t.Helper()
	wantNumber(t, "Body: "+what, valid.Body(m, f), want)
	got, err := valid.Height(m, f)
	wantNumber(t, "Height: "+what, err, want)
	if got != height {
		t.Errorf("Height: %s: %d, want %d", what, got, height)
	}
}

func TestNoSuchFunction(t *testing.T) {
	m := bench(typeNone, nil)
	for _, f := range []int{math.MinInt, -1 << 32, -2, -1, 6, 7, 1 << 32, math.MaxInt} {
		wantAnswers(t, "a function that is not there", m, f, 0, api.ErrArg)
	}
	for _, f := range []int{-1, 0, 1} {
		wantAnswers(t, "of a module without anything", api.Module{}, f, 0, api.ErrArg)
	}
}

func TestNoSuchType(t *testing.T) {
	for _, typ := range []uint32{5, 6, 1 << 31, math.MaxUint32} {
		m := bench(typ, nil)
		wantAnswers(t, "a type that is not there", m, 0, 0, api.ErrArg)
		wantAnswers(t, "another function's type is not there", m, 1, 0, 0)
		// It is the body that can't be gone over, where the type of a function that it calls is missing.
		m = bench(typeNone, code("call 1"))
		m.Funcs[1].Type = typ
		wantAnswers(t, "a call of a function without a type", m, 0, 0, api.ErrInvalid)
		wantAnswers(t, "that function", m, 1, 0, api.ErrArg)
	}
}

// wrongKinds are modules each of which has one kind that is none, somewhere else than in function 0.
func wrongKinds() map[string]api.Module {
	out := map[string]api.Module{}
	for _, k := range []api.Kind{0, 1, 2, 0x40, 0x60, 0x70, 0x7b, 0x7c, 0x7d, 0x80, 0xff} {
		change := func(what string, f func(m *api.Module)) {
			m := bench(typeNone, code("nop"))
			f(&m)
			out[what+" "+string(rune('a'+k%16))+string(rune('a'+k/16))] = m
		}
		change("first param", func(m *api.Module) { m.Types[typeMixed].Params[0] = k })
		change("last param", func(m *api.Module) { m.Types[typeMixed].Params[1] = k })
		change("param of a type of no function", func(m *api.Module) { m.Types = append(m.Types, api.Type{Params: []api.Kind{k}}) })
		change("local", func(m *api.Module) { m.Funcs[5].Locals = []api.Kind{api.I32, k} })
		change("own local", func(m *api.Module) { m.Funcs[0].Locals[0] = k })
		change("global", func(m *api.Module) { m.Globals[1].Kind = k })
		if k != api.None {
			change("result", func(m *api.Module) { m.Types[typeBigI].Result = k })
			change("own result", func(m *api.Module) { m.Types[typeNone].Result = k })
		}
	}
	return out
}

func TestKindsThatAreNotRight(t *testing.T) {
	for what, m := range wrongKinds() {
		wantAnswers(t, what, m, 0, 0, api.ErrArg)
		// Whatever the body is.
		m.Funcs[0].Body = code("drop")
		wantAnswers(t, what, m, 0, 0, api.ErrArg)
	}
}

// VA1: bodies.

// bodies are some that may run, and some that may not, of one thing that 'Words' tells.
type bodies struct {
	name string
	typ  uint32
	may  []string
	not  []string
}

func bodiesOfValues() []bodies {
	return []bodies{
		{"the end", typeNone, []string{"", "nop", "nop nop"}, []string{"i32.const 1", "i64.const 1", "i32.const 1 i32.const 2 drop"}},
		{"the end with a Result", typeI, []string{"i32.const 1", "i64.const 1 i32.wrap_i64"},
			[]string{"", "nop", "i64.const 1", "i32.const 1 i32.const 1", "i64.const 1 i32.const 1", "i32.const 1 drop"}},
		{"the end with a Result of I64", typeBigI, []string{"i64.const 1"}, []string{"", "i32.const 1", "i64.const 1 i64.const 1"}},
		{"const", typeI, []string{"i32.const -2147483648", "i32.const 2147483647", "i64.const -9223372036854775808 i64.eqz", "i64.const 9223372036854775807 i64.eqz"},
			[]string{"i32.const -2147483649", "i32.const 2147483648", "i32.const 4294967295", "i32.const 4294967296", "i32.const -9223372036854775808", "unreachable i32.const 2147483648"}},
		{"the order", typeI, []string{"i64.const 1 i32.const 1 drop i64.eqz"}, []string{"i64.const 1 i32.const 1 i64.eqz drop"}},
		{"drop", typeNone, []string{"i32.const 1 drop", "i64.const 1 drop", "i32.const 1 i64.const 1 drop drop"},
			[]string{"drop", "i32.const 1 drop drop", "i32.const 1 i64.const 1 drop", "drop i32.const 1"}},
		{"select", typeI, []string{"i32.const 1 i32.const 2 i32.const 3 select", "i64.const 1 i64.const 2 i32.const 3 select i64.eqz"},
			[]string{"i64.const 1 i64.const 2 i32.const 3 select", "i32.const 1 i64.const 2 i32.const 3 select", "i64.const 1 i32.const 2 i32.const 3 select",
				"i32.const 1 i32.const 2 i64.const 3 select", "i64.const 1 i64.const 2 i64.const 3 select", "i32.const 1 i32.const 2 select", "i32.const 1 select", "select",
				"i32.const 0 i32.const 1 i32.const 2 i32.const 3 select"}},
		{"local.get", typeI, []string{"local.get 0", "local.get 1 i64.eqz"}, []string{"local.get 1", "local.get 2", "local.get -1", "local.get 4294967296", "local.get -9223372036854775808", "unreachable local.get 2"}},
		{"local.set", typeNone, []string{"i32.const 1 local.set 0", "i64.const 1 local.set 1", "unreachable local.set 1"},
			[]string{"local.set 0", "i64.const 1 local.set 0", "i32.const 1 local.set 1", "i32.const 1 local.set 2", "i32.const 1 local.set -1", "unreachable local.set 2"}},
		{"local.tee", typeI, []string{"i32.const 1 local.tee 0", "i64.const 1 local.tee 1 i64.eqz", "unreachable local.tee 0"},
			[]string{"local.tee 0", "i64.const 1 local.tee 0", "i64.const 1 local.tee 1", "i32.const 1 local.tee 1", "i32.const 1 local.tee 2", "i32.const 1 local.tee -1", "unreachable local.tee 1"}},
		{"locals behind params", typeMixed, []string{"local.get 1", "local.get 3", "local.get 0 drop local.get 2 drop i64.const 1", "local.get 0 local.set 2 local.get 1 local.tee 3"},
			[]string{"local.get 0", "local.get 2", "local.get 4", "local.get 0 local.set 3 local.get 1"}},
		{"global.get", typeBigI, []string{"global.get 1", "global.get 2", "global.get 0 i64.extend_i32_s"}, []string{"global.get 0", "global.get 3", "global.get -1", "global.get 4294967297", "unreachable global.get 3"}},
		{"global.set", typeNone, []string{"i32.const 1 global.set 0", "i64.const 1 global.set 2", "unreachable global.set 2"},
			[]string{"global.set 0", "i64.const 1 global.set 0", "i64.const 1 global.set 1", "i32.const 1 global.set 2", "i64.const 1 global.set 3", "i64.const 1 global.set -1", "unreachable global.set 1", "unreachable global.set 3"}},
		{"call", typeBigI, []string{"i32.const 1 i64.const 2 call 4", "call 3", "call 1 call 3", "i64.const 1 call 5 call 3", "call 2 i64.extend_i32_s", "call 0"},
			[]string{"call 4", "i64.const 2 call 4", "i32.const 1 call 4", "i64.const 2 i32.const 1 call 4", "i32.const 1 i32.const 2 call 4", "i64.const 1 i64.const 2 call 4",
				"call 2", "call 1", "i32.const 1 call 5 call 3", "call 5 call 3", "call 6", "call -1", "call 4294967299", "unreachable call 6", "unreachable call -1", "i32.const 0 i32.const 1 i64.const 2 call 4"}},
		{"call_indirect", typeBigI, []string{"i32.const 1 i64.const 2 i32.const 0 call_indirect 3", "i32.const 0 call_indirect 2", "i64.const 1 i32.const 0 call_indirect 4 call 3", "i32.const 0 call_indirect 1 i64.extend_i32_u", "i32.const 0 call_indirect 0 call 3"},
			[]string{"call_indirect 2", "i64.const 0 call_indirect 2", "i32.const 1 i64.const 2 call_indirect 3", "i32.const 0 i32.const 1 i64.const 2 call_indirect 3", "i64.const 2 i32.const 0 call_indirect 3",
				"i64.const 1 i32.const 2 i32.const 0 call_indirect 3", "i32.const 0 call_indirect 1", "i32.const 0 call_indirect 0", "i32.const 0 call_indirect 5", "i32.const 0 call_indirect -1", "unreachable call_indirect 5"}},
	}
}

func bodiesOfBlocks() []bodies {
	return []bodies{
		{"block", typeNone, []string{"block ( )", "block ( nop )", "block ( i32.const 1 drop )", "block ( block ( block ( ) ) )", "i32.const 1 block ( ) drop"},
			[]string{"block ( i32.const 1 )", "i32.const 1 block ( drop )", "block ( drop )", "block i32 ( )", "block i32 ( i32.const 1 )", "block ( i32.const 1 ) drop", "block ( block ( i32.const 1 ) drop )"}},
		{"block with a Result", typeI, []string{"block i32 ( i32.const 1 )", "block i32 ( block i64 ( i64.const 1 ) i64.eqz )", "i32.const 1 block i32 ( i32.const 2 ) i32.add", "block i64 ( i64.const 1 ) i64.eqz"},
			[]string{"block i32 ( )", "block i32 ( i64.const 1 )", "block i64 ( i64.const 1 )", "block i64 ( i32.const 1 ) drop i32.const 1", "block i32 ( i32.const 1 i32.const 1 )", "i32.const 1 block i32 ( )",
				"block i32 ( i32.const 1 ) i32.const 2", "i32.const 1 block i32 ( i32.const 2 i32.add )"}},
		{"loop", typeNone, []string{"loop ( )", "loop ( i64.const 1 drop )", "loop ( block ( br 1 ) )"}, []string{"loop ( i32.const 1 )", "i32.const 1 loop ( drop )", "loop i64 ( )"}},
		{"loop with a Result", typeBigI, []string{"loop i64 ( i64.const 1 )", "loop i64 ( br 0 )", "loop i64 ( i32.const 1 br_if 0 i64.const 1 )"},
			[]string{"loop i64 ( )", "loop i64 ( i32.const 1 )", "loop i32 ( i32.const 1 )", "loop i64 ( i64.const 1 i32.const 1 br_if 0 drop )"}},
		{"if", typeNone, []string{"i32.const 1 if ( )", "i32.const 1 if ( nop ) else ( nop )", "i32.const 1 if ( ) else ( nop )", "i32.const 1 if ( i32.const 1 if ( br 2 ) )"},
			[]string{"if ( )", "i64.const 1 if ( )", "i32.const 1 if ( i32.const 1 )", "i32.const 1 if ( ) else ( i32.const 1 )", "i32.const 1 i32.const 1 if ( drop ) else ( drop )", "unreachable i64.const 1 if ( )"}},
		{"if with a Result", typeI, []string{"i32.const 1 if i32 ( i32.const 1 ) else ( i32.const 2 )", "i32.const 1 if i64 ( i64.const 1 ) else ( unreachable ) i64.eqz", "i32.const 1 if i32 ( i32.const 1 br 0 br 0 ) else ( i32.const 1 )"},
			[]string{"i32.const 1 if i32 ( i32.const 1 )", "i32.const 1 if i32 ( ) else ( i32.const 1 )", "i32.const 1 if i32 ( i64.const 1 ) else ( i32.const 1 )", "i32.const 1 if i32 ( i32.const 1 ) else ( i64.const 1 )",
				"i32.const 1 if i32 ( unreachable )", "if i32 ( i32.const 1 ) else ( i32.const 1 )", "unreachable if i32 ( i32.const 1 )", "i32.const 1 i32.const 1 if i32 ( ) else ( )"}},
	}
}

func bodiesOfBranches() []bodies {
	return []bodies{
		{"br", typeNone, []string{"br 0", "block ( br 0 )", "block ( br 1 )", "loop ( br 0 )", "loop ( br 1 )", "block ( loop ( br 2 ) )", "i32.const 1 br 0", "block ( i64.const 1 br 0 )", "i32.const 1 if ( br 0 ) else ( br 1 )", "loop i32 ( br 0 ) drop"},
			[]string{"br 1", "br -1", "br 4294967296", "br -9223372036854775808", "br 9223372036854775807", "block ( br 2 )", "block ( loop ( br 3 ) )", "i32.const 1 if ( br 2 )", "i32.const 1 if ( ) else ( br 2 )", "block ( ) br 1", "unreachable br 1"}},
		{"br with a value", typeI, []string{"i32.const 1 br 0", "block i32 ( i32.const 1 br 0 )", "block ( i32.const 1 br 1 ) i32.const 1", "block i64 ( i64.const 1 br 0 ) i64.eqz", "block i64 ( i32.const 1 br 1 ) i64.eqz",
			"loop i64 ( i32.const 1 br 1 ) i64.eqz", "loop i32 ( br 0 )", "i64.const 1 i32.const 1 br 0", "i32.const 1 if i32 ( i32.const 1 br 1 ) else ( i32.const 1 br 0 )"},
			[]string{"br 0", "i64.const 1 br 0", "block i32 ( br 0 )", "block i32 ( i64.const 1 br 0 )", "i32.const 1 block i32 ( br 0 )", "i32.const 1 block ( br 1 )", "block i64 ( i64.const 1 br 1 ) i64.eqz",
				"block i64 ( i32.const 1 br 0 ) i64.eqz", "loop i64 ( i64.const 1 br 1 ) i64.eqz", "i32.const 1 br 1"}},
		{"br_if", typeNone, []string{"i32.const 1 br_if 0", "block ( i32.const 1 br_if 0 )", "block ( i32.const 1 br_if 1 )", "loop ( i32.const 1 br_if 0 )", "i32.const 1 i32.const 1 br_if 0 drop", "i64.const 1 i32.const 1 br_if 0 drop", "loop i32 ( i32.const 1 i32.const 1 br_if 0 ) drop"},
			[]string{"br_if 0", "i64.const 1 br_if 0", "i32.const 1 br_if 1", "i32.const 1 br_if -1", "block ( i32.const 1 br_if 2 )", "i32.const 1 block ( br_if 0 )", "i32.const 1 i32.const 1 br_if 0", "unreachable br_if 1", "i32.const 1 br_if 0 drop"}},
		{"br_if with a value", typeI, []string{"i32.const 1 i32.const 1 br_if 0", "block i64 ( i64.const 1 i32.const 1 br_if 0 ) i64.eqz", "block i64 ( i32.const 1 i32.const 1 br_if 1 i64.extend_i32_s ) i64.eqz", "unreachable br_if 0", "unreachable i32.const 1 br_if 0"},
			[]string{"i32.const 1 br_if 0", "i64.const 1 i32.const 1 br_if 0", "i32.const 1 i64.const 1 br_if 0", "i32.const 1 i32.const 1 br_if 0 drop", "block i64 ( i64.const 1 i32.const 1 br_if 1 ) i64.eqz", "i64.const 1 i32.const 1 br_if 0 i64.eqz",
				"unreachable br_if 0 i64.eqz"}},
		{"br_table", typeNone, []string{"i32.const 1 br_table 0 ;", "i32.const 1 br_table 0 0 0 ;", "block ( i32.const 1 br_table 0 1 ; )", "block ( i32.const 1 br_table 1 ; )", "loop ( block ( i32.const 1 br_table 2 1 0 ; ) )",
			"loop i32 ( i32.const 1 br_table 0 1 ; ) drop", "i64.const 1 i32.const 1 br_table 0 ;", "unreachable br_table 0 ;"},
			[]string{"i32.const 1 br_table ;", "unreachable br_table ;", "br_table 0 ;", "i64.const 1 br_table 0 ;", "i32.const 1 br_table 1 ;", "i32.const 1 br_table 1 0 ;", "i32.const 1 br_table 0 1 ;", "i32.const 1 br_table 0 4294967295 0 ;",
				"block ( i32.const 1 br_table 0 1 2 ; )", "block ( i32.const 1 br_table 2 1 0 ; )", "i32.const 1 block ( br_table 0 ; )", "unreachable br_table 0 1 ;"}},
		{"br_table with a value", typeI, []string{"i32.const 1 i32.const 1 br_table 0 ;", "block i32 ( i32.const 1 i32.const 1 br_table 0 1 ; )", "block i64 ( i64.const 1 i32.const 1 br_table 0 0 ; ) i64.eqz", "block i64 ( i32.const 1 i32.const 1 br_table 1 1 ; ) i64.eqz",
			"block ( i32.const 1 br_table 0 ; ) i32.const 1", "i32.const 1 if i32 ( i32.const 1 i32.const 1 br_table 1 0 ; ) else ( unreachable br_table 0 1 ; )"},
			[]string{"i32.const 1 br_table 0 ;", "i64.const 1 i32.const 1 br_table 0 ;", "i32.const 1 i64.const 1 br_table 0 ;", "block ( i32.const 1 i32.const 1 br_table 0 1 ; ) i32.const 1", "block ( i32.const 1 i32.const 1 br_table 1 0 ; ) i32.const 1",
				"block i64 ( unreachable br_table 0 1 ; ) i64.eqz", "block i64 ( unreachable br_table 1 0 ; ) i64.eqz", "loop i32 ( unreachable br_table 0 1 ; )", "block ( unreachable br_table 1 0 1 ; ) i32.const 1", "block i64 ( i64.const 1 i32.const 1 br_table 1 1 ; ) i64.eqz"}},
		{"return", typeNone, []string{"return", "i32.const 1 return", "block ( return )", "block i32 ( return ) drop", "loop ( i64.const 1 return )", "i32.const 1 if ( return ) else ( return )"}, []string{"return i32.const 1", "block ( return ) drop"}},
		{"return with a value", typeI, []string{"i32.const 1 return", "i64.const 1 i32.const 1 return", "block i64 ( i32.const 1 return ) i64.eqz", "block ( block ( i32.const 1 return ) ) unreachable"},
			[]string{"return", "i64.const 1 return", "i32.const 1 block ( return )", "block i64 ( i64.const 1 return ) i64.eqz", "i32.const 1 return i64.const 1"}},
		{"unreachable", typeI, []string{"unreachable", "i64.const 1 unreachable", "block ( unreachable ) i32.const 1", "block i32 ( unreachable )"}, []string{"block ( unreachable )", "unreachable i64.const 1", "block ( unreachable ) drop i32.const 1"}},
	}
}

// bodiesBehind are of what stands behind each of the four: it holds the same of all of them.
func bodiesBehind() []bodies {
	var out []bodies
	for _, stop := range []string{"i32.const 1 br 0", "i64.const 1 i32.const 1 br 0", "i32.const 1 i32.const 1 br_table 0 ;", "i32.const 1 return", "i64.const 1 i32.const 1 return", "unreachable", "i64.const 1 unreachable"} {
		b := bodies{"behind " + stop, typeI, []string{
			"", "i32.const 1", "drop", "drop drop drop", "i32.add", "i64.add i64.eqz", "i64.eqz", "i64.const 1 i64.add i64.eqz", "i32.const 1 i32.add", "i64.const 1 drop",
			"select", "select i64.eqz", "i64.const 1 i32.const 1 select i64.eqz", "i32.const 1 select", "i32.const 1 i32.const 1 select", "i32.const 1 i32.const 1 i32.const 1 select", "select select", "select select i64.eqz", "select drop",
			"i64.const 1 i32.const 1 select drop unreachable", "select i32.const 1 i32.const 1 select", "select i64.const 1 i32.const 1 select i64.eqz",
			"call 4 drop", "i64.const 1 call 4 drop", "call 5", "call_indirect 3 drop", "local.set 0", "local.set 1", "local.tee 0", "local.tee 1 drop", "global.set 2",
			"i32.store 2", "i64.store 3", "i64.const 1 i64.store 3", "memory.grow", "if ( )", "if i32 ( i32.const 1 ) else ( unreachable )", "block ( )", "block ( ) drop", "block i64 ( i64.const 1 ) i64.eqz", "loop ( br 0 )",
			"br 0", "br_if 0", "br_if 0 drop", "br_table 0 ;", "return", "unreachable", "unreachable drop i32.const 1", "br 0 drop", "i32.const 1 br 0 i64.const 1 drop",
		}, []string{
			"i64.const 1", "i32.const 1 i32.const 1", "i64.const 1 i32.const 1", "i64.add", "i32.const 1 i64.add i64.eqz", "i64.const 1 i32.add", "i64.const 1 br 0", "i64.const 1 return", "i64.const 1 br_if 0",
			"i64.const 1 select", "i64.const 1 i32.const 1 i32.const 1 select", "i32.const 1 i64.const 1 i32.const 1 select", "i64.const 1 i32.const 1 select", "select i64.const 1 i32.const 1 select", "select i32.const 1 drop drop i64.const 1",
			"select i32.const 1", "i32.const 1 call 4 drop", "i64.const 1 i64.const 1 call 4 drop", "call 4", "i32.const 1 call 5", "i64.const 1 call_indirect 2 drop", "i32.const 1 local.set 1", "i32.const 1 local.tee 1 drop", "local.tee 1",
			"i32.const 1 i64.store 3", "i64.const 1 if ( )", "if ( drop )", "block ( drop )", "block ( i32.const 1 )", "block i32 ( )", "loop ( drop )", "if i32 ( i32.const 1 )", "if ( ) else ( drop )", "br 1", "br_if 1", "br_table 1 ;",
			"unreachable i64.const 1", "br 0 i64.const 1", "block ( br 1 drop ) i64.const 1", "block ( i64.const 1 br 1 )",
		}}
		for i := range b.may {
			b.may[i] = stop + " " + b.may[i]
		}
		for i := range b.not {
			b.not[i] = stop + " " + b.not[i]
		}
		out = append(out, b)
	}
	return append(out, bodies{"up to the end of the list alone", typeNone,
		[]string{"block ( unreachable drop )", "block i32 ( unreachable ) drop", "i32.const 1 if ( br 0 drop ) else ( nop )", "loop ( br 0 i32.add drop )", "unreachable block ( unreachable i32.add drop ) drop"},
		[]string{"block ( unreachable ) drop", "block ( br 0 ) drop", "loop ( return ) drop", "i32.const 1 if ( br 0 ) else ( drop )", "i32.const 1 if ( unreachable ) drop", "i32.const 1 if ( br 0 ) else ( br 0 ) drop", "block i32 ( unreachable )",
			"i32.const 1 block ( br 0 )", "i32.const 1 block ( unreachable drop drop )", "unreachable block ( ) block ( drop )"}})
}

func bodiesOfMemory() []bodies {
	return []bodies{
		{"memory.size", typeI, []string{"memory.size"}, []string{"memory.size i64.eqz", "i32.const 1 memory.size"}},
		{"memory.grow", typeI, []string{"i32.const 1 memory.grow", "unreachable memory.grow"}, []string{"memory.grow", "i64.const 1 memory.grow"}},
		{"loads", typeI, []string{"i32.const 1 i32.load 0", "i32.const 1 i32.load 2", "i32.const 1 i64.load 3 i64.eqz"},
			[]string{"i32.load 0", "i64.const 1 i32.load 0", "i32.const 1 i64.load 0", "i32.const 1 i32.load 3", "i32.const 1 i64.load 4 i64.eqz", "unreachable i32.load 3"}},
		{"stores", typeNone, []string{"i32.const 1 i32.const 1 i32.store 2", "i32.const 1 i64.const 1 i64.store32 2"},
			[]string{"i32.store 0", "i32.const 1 i32.store 0", "i32.const 1 i64.const 1 i32.store 0", "i64.const 1 i32.const 1 i64.store 0", "i32.const 1 i32.const 1 i32.store 3", "unreachable i64.store 4"}},
	}
}

func allBodies() []bodies {
	return slices.Concat(bodiesOfValues(), bodiesOfMemory(), bodiesOfBlocks(), bodiesOfBranches(), bodiesBehind())
}

func TestBodies(t *testing.T) {
	for _, b := range allBodies() {
		for _, text := range b.may {
			m := bench(b.typ, code(text))
			wantNumber(t, b.name+": Body of "+text, valid.Body(m, 0), 0)
			if f, err := valid.Check(m); f != -1 || err != nil {
				t.Errorf("%s: Check of %s: %d, %v", b.name, text, f, err)
			}
		}
		for _, text := range b.not {
			m := bench(b.typ, code(text))
			wantAnswers(t, b.name+": "+text, m, 0, 0, api.ErrInvalid)
			if f, err := valid.Check(m); f != 0 || number(err) != api.ErrInvalid {
				t.Errorf("%s: Check of %s: %d, %v", b.name, text, f, err)
			}
		}
	}
}

// constOf is a const of a kind.
func constOf(k api.Kind) api.Instr {
	if k == api.I32 {
		return api.Instr{Op: 0x41, N: 1}
	}
	return api.Instr{Op: 0x42, N: 1}
}

func consts(kinds []api.Kind) []api.Instr {
	var l []api.Instr
	for _, k := range kinds {
		l = append(l, constOf(k))
	}
	return l
}

func other(k api.Kind) api.Kind {
	if k == api.I32 {
		return api.I64
	}
	return api.I32
}

// typeGiving is the type of bench that gives a kind, and takes nothing.
func typeGiving(k api.Kind) uint32 {
	switch k {
	case api.I32:
		return typeI
	case api.I64:
		return typeBigI
	}
	return typeNone
}

// TestEachSign: what has a sign takes just that, and gives just that.
func TestEachSign(t *testing.T) {
	for op := range 256 {
		sign, err := ops.Sign(byte(op))
		if err != nil {
			continue
		}
		in := api.Instr{Op: byte(op)}
		check := func(what string, params []api.Kind, result api.Kind, want api.Errno) {
			t.Helper()
			m := bench(typeGiving(result), append(consts(params), in))
			wantNumber(t, what+" "+ops.Name(byte(op)), valid.Body(m, 0), want)
			m = bench(typeGiving(result), append(append(code("unreachable"), consts(params)...), in))
			if what == "less" {
				want = 0 // what is missing is there
			}
			wantNumber(t, "behind unreachable: "+what+" "+ops.Name(byte(op)), valid.Body(m, 0), want)
		}
		check("right", sign.Params, sign.Result, 0)
		check("more", slices.Concat([]api.Kind{api.I32}, sign.Params), sign.Result, api.ErrInvalid)
		for i := range sign.Params {
			check("less", sign.Params[i+1:], sign.Result, api.ErrInvalid)
			wrong := slices.Clone(sign.Params)
			wrong[i] = other(wrong[i])
			check("another kind", wrong, sign.Result, api.ErrInvalid)
		}
		if sign.Result != api.None {
			check("no result", sign.Params, api.None, api.ErrInvalid)
			check("another result", sign.Params, other(sign.Result), api.ErrInvalid)
		}
	}
}

// TestNoInstruction: neither a sign nor told of.
func TestNoInstruction(t *testing.T) {
	for op := range 256 {
		if ops.Name(byte(op)) != "" {
			continue
		}
		for _, before := range []string{"", "unreachable", "i32.const 1 i32.const 1"} {
			wantAnswers(t, "no instruction", bench(typeNone, append(code(before), api.Instr{Op: byte(op)})), 0, 0, api.ErrInvalid)
			wantAnswers(t, "no instruction", bench(typeI, append(code(before), api.Instr{Op: byte(op)})), 0, 0, api.ErrInvalid)
		}
	}
}

// TestAlign: each load and store by each Align up to more than may be.
func TestAlign(t *testing.T) {
	aligns := []uint32{31, 32, 33, 62, 63, 64, 65, 1 << 31, math.MaxUint32}
	for a := range uint32(9) {
		aligns = append(aligns, a)
	}
	for op := range 256 {
		n, _, err := ops.Bytes(byte(op))
		if err != nil {
			continue
		}
		sign, _ := ops.Sign(byte(op))
		for _, a := range aligns {
			want := api.ErrInvalid
			if math.Pow(2, float64(a)) <= float64(n) {
				want = 0
			}
			in := api.Instr{Op: byte(op), Align: a, Offset: math.MaxUint32}
			wantNumber(t, ops.Name(byte(op)), valid.Body(bench(typeGiving(sign.Result), append(consts(sign.Params), in)), 0), want)
		}
	}
}

// TestWithoutMemory, and without a table: what needs one may not be there, not even behind br and such.
func TestWithoutMemory(t *testing.T) {
	for op := range 256 {
		form, err := ops.Form(byte(op))
		if err != nil || form != ops.Address && form != ops.Memory {
			continue
		}
		sign, _ := ops.Sign(byte(op))
		for _, before := range [][]api.Instr{consts(sign.Params), code("unreachable")} {
			m := bench(typeGiving(sign.Result), append(before, api.Instr{Op: byte(op)}))
			wantNumber(t, "with a memory: "+ops.Name(byte(op)), valid.Body(m, 0), 0)
			m.Memories = nil
			wantNumber(t, "without a memory: "+ops.Name(byte(op)), valid.Body(m, 0), api.ErrInvalid)
		}
	}
	for _, text := range []string{"i32.const 0 call_indirect 0", "unreachable call_indirect 0"} {
		m := bench(typeNone, code(text))
		wantNumber(t, "with a table", valid.Body(m, 0), 0)
		m.Memories = nil
		wantNumber(t, "with a table, and no memory", valid.Body(m, 0), 0)
		m.Tables = nil
		wantNumber(t, "without a table", valid.Body(m, 0), api.ErrInvalid)
	}
}

// TestResultThatIsNoKind: not even where any kind is there.
func TestResultThatIsNoKind(t *testing.T) {
	for k := range 256 {
		if k := api.Kind(k); k == api.None || k == api.I32 || k == api.I64 {
			continue
		}
		for _, op := range []byte{2, 3, 4} {
			for _, body := range []string{"", "unreachable", "return", "i32.const 1", "unreachable select"} {
				in := api.Instr{Op: op, Result: api.Kind(k), Body: code(body), Else: code(body)}
				if op != 4 {
					in.Else = nil
				}
				m := bench(typeNone, append(code("i32.const 1"), in, api.Instr{Op: 0}))
				wantAnswers(t, "a block of no kind", m, 0, 0, api.ErrInvalid)
			}
		}
	}
}

// Labels of blocks about each other: each hands on another kind than the next.
func TestEachLabel(t *testing.T) {
	// From the innermost one on: block I64, loop (none), if I32, block none, body I64.
	kinds := []api.Kind{api.I64, api.None, api.I32, api.None, api.I64}
	about := func(inner []api.Instr) []api.Instr {
		l := []api.Instr{{Op: 2, Result: api.I64, Body: inner}, {Op: 0x1a}}
		l = []api.Instr{{Op: 3, Body: l}}
		l = []api.Instr{constOf(api.I32), {Op: 4, Result: api.I32, Body: append(l, constOf(api.I32)), Else: code("i32.const 1")}, {Op: 0x1a}}
		l = []api.Instr{{Op: 2, Body: l}}
		return append(l, constOf(api.I64))
	}
	hands := func(k api.Kind) []api.Instr {
		if k == api.None {
			return nil
		}
		return []api.Instr{constOf(k)}
	}
	for n := -1; n <= len(kinds); n++ {
		for _, handed := range []api.Kind{api.None, api.I32, api.I64} {
			there := n >= 0 && n < len(kinds)
			want := api.ErrInvalid
			if there && (kinds[n] == api.None || kinds[n] == handed) {
				want = 0
			}
			br := append(hands(handed), api.Instr{Op: 0x0c, N: int64(n)})
			wantNumber(t, "br", valid.Body(bench(typeBigI, about(br)), 0), want)
			table := append(hands(handed), constOf(api.I32), api.Instr{Op: 0x0e, Labels: []uint32{uint32(n)}})
			wantNumber(t, "br_table", valid.Body(bench(typeBigI, about(table)), 0), want)
			// What is laid again stays there, so that just what is handed on may be.
			if there && kinds[n] != handed {
				want = api.ErrInvalid
			}
			brIf := append(hands(handed), constOf(api.I32), api.Instr{Op: 0x0d, N: int64(n)})
			if handed != api.None {
				brIf = append(brIf, api.Instr{Op: 0x1a})
			}
			brIf = append(brIf, constOf(api.I64))
			if there && kinds[n] == api.None {
				want = 0
			}
			wantNumber(t, "br_if", valid.Body(bench(typeBigI, about(brIf)), 0), want)
		}
	}
	for a := range kinds {
		for b := range kinds {
			want := api.ErrInvalid
			if kinds[a] == kinds[b] {
				want = 0
			}
			l := []api.Instr{{Op: 0}, {Op: 0x0e, Labels: []uint32{uint32(a), uint32(b)}}}
			wantNumber(t, "br_table of two", valid.Body(bench(typeBigI, about(l)), 0), want)
		}
	}
}

// TestManyLabels, and a label that is wrong at each place among them.
func TestManyLabels(t *testing.T) {
	labels := make([]uint32, 1000)
	m := bench(typeNone, []api.Instr{constOf(api.I32), {Op: 0x0e, Labels: labels}})
	wantAnswers(t, "many labels", m, 0, 1, 0)
	for i := range labels {
		labels[i] = 1
		wantAnswers(t, "a label that is not there", m, 0, 0, api.ErrInvalid)
		labels[i] = 0
	}
}

// TestDeepNest: there is no limit of blocks one in another but that of all.
func TestDeepNest(t *testing.T) {
	const nest = 1<<16 - 2
	for _, inner := range []string{"i32.const 1 drop", "br 65534", "br 65535"} {
		l := code(inner)
		for i := range nest {
			l = []api.Instr{{Op: byte(2 + i%2), Body: l}}
		}
		m := bench(typeNone, l)
		switch inner {
		case "br 65535":
			wantAnswers(t, "one label further", m, 0, 0, api.ErrInvalid)
		case "br 65534":
			wantAnswers(t, "the outermost label", m, 0, 0, 0)
		default:
			wantAnswers(t, "deep", m, 0, 1, 0)
		}
	}
}

// TestOtherFields: what an instruction has that its rule does not name is not looked at.
func TestOtherFields(t *testing.T) {
	for _, in := range []api.Instr{
		{Op: 1, N: -1, Align: 99, Offset: 1, Result: 9, Body: code("drop"), Else: code("drop"), Labels: []uint32{9}},
		{Op: 2, N: -1, Align: 99, Else: code("drop"), Labels: []uint32{9}},
		{Op: 3, N: -1, Align: 99, Else: code("drop"), Labels: []uint32{9}},
		{Op: 0x10, N: 1, Align: 99, Result: 9, Body: code("drop")},
	} {
		wantAnswers(t, "fields of no use", bench(typeNone, []api.Instr{in}), 0, 0, 0)
	}
}

// VA1: Height.

func TestHeight(t *testing.T) {
	for _, c := range []struct {
		typ  uint32
		text string
		want int
	}{
		{typeNone, "", 0},
		{typeNone, "nop", 0},
		{typeI, "i32.const 1", 1},
		{typeI, "local.get 0 local.get 0 i32.add", 2},
		{typeMixed, "local.get 1", 1}, // locals stand elsewhere
		{typeNone, "i32.const 1 drop i32.const 1 drop", 1},
		{typeI, "i32.const 1 i32.const 2 i32.const 3 select", 3},
		{typeI, "i32.const 1 local.tee 0", 1},
		{typeBigI, "i32.const 1 i64.const 2 call 4", 2},
		{typeBigI, "i32.const 1 i64.const 2 i32.const 3 call_indirect 3", 3},
		{typeNone, "call 2 drop", 1},
		{typeNone, "i32.const 1 i64.const 1 i64.const 1 i64.const 1 drop drop drop drop", 4},
		// A block's values, on those beneath.
		{typeNone, "i32.const 1 i32.const 1 block ( i64.const 1 drop ) drop drop", 3},
		{typeNone, "i32.const 1 block ( i32.const 1 block ( i32.const 1 loop ( i32.const 1 drop ) drop ) drop ) drop", 4},
		{typeNone, "i32.const 1 i32.const 1 i32.const 1 drop drop block ( i32.const 1 drop ) drop", 3},
		{typeNone, "i32.const 1 block i32 ( i32.const 1 ) drop drop", 2},
		{typeNone, "i32.const 1 i32.const 1 if ( i32.const 1 drop ) drop", 2},
		{typeNone, "i32.const 1 if ( i32.const 1 drop ) else ( i32.const 1 i32.const 1 drop drop )", 2},
		{typeNone, "i32.const 1 if ( i32.const 1 i32.const 1 i32.const 1 drop drop drop ) else ( i32.const 1 drop )", 3},
		// What a block gives stands there, though its end is never come to.
		{typeI, "block i32 ( unreachable )", 1},
		{typeI, "i32.const 1 block i32 ( unreachable ) drop", 2},
		{typeI, "i32.const 1 loop i32 ( br 0 ) drop", 2},
		{typeI, "i32.const 1 i32.const 1 if i32 ( unreachable ) else ( unreachable ) drop", 2},
		// Branches.
		{typeI, "i32.const 1 i32.const 1 br_if 0", 2},
		{typeI, "i32.const 1 i32.const 1 br_table 0 ;", 2},
		{typeI, "i64.const 1 i64.const 1 i32.const 1 br 0", 3},
		{typeI, "i64.const 1 i32.const 1 return", 2},
		// Behind br and such there is nothing, nor in the blocks there.
		{typeI, "unreachable", 0},
		{typeI, "unreachable i32.const 1", 0},
		{typeI, "unreachable i32.const 1 i32.const 1 i32.const 1 drop drop", 0},
		{typeNone, "br 0 i32.const 1 i32.const 1 drop drop", 0},
		{typeNone, "return i32.const 1 i32.const 1 drop drop", 0},
		{typeNone, "i32.const 1 br_table 0 ; i32.const 1 i32.const 1 drop drop", 1},
		{typeNone, "i32.const 1 return i32.const 1 i32.const 1 drop drop", 1},
		{typeNone, "unreachable block ( i32.const 1 i32.const 1 drop drop )", 0},
		{typeNone, "unreachable block ( block ( i32.const 1 drop ) loop ( i32.const 1 drop ) i32.const 1 if ( i32.const 1 drop ) else ( i32.const 1 drop ) )", 0},
		{typeI, "unreachable block i32 ( i32.const 1 )", 0},
		{typeI, "unreachable select", 0},
		{typeI, "i32.const 1 block ( i32.const 1 br 0 i32.const 1 i32.const 1 i32.const 1 drop drop drop )", 2},
		{typeI, "i32.const 1 block ( br 0 block i32 ( i32.const 1 i32.const 1 drop ) drop )", 1},
		{typeI, "i32.const 1 i32.const 1 if ( br 0 i32.const 1 i32.const 1 drop drop ) else ( i32.const 1 drop )", 2},
		// Behind the list that they stand in it is counted again.
		{typeNone, "block ( unreachable i32.const 1 drop ) i32.const 1 i32.const 1 drop drop", 2},
		{typeNone, "block ( br 0 ) block ( i32.const 1 i32.const 1 drop drop )", 2},
		{typeNone, "i32.const 1 if ( return ) else ( i32.const 1 i32.const 1 drop drop )", 2},
		{typeNone, "block ( i32.const 1 br_if 0 i32.const 1 i32.const 1 drop drop )", 2},
		// A block that is gone over behind br and such, and one behind it that is not.
		{typeNone, "block ( unreachable block ( i32.const 1 drop ) i32.const 1 drop ) i32.const 1 drop", 1},
	} {
		wantAnswers(t, c.text, bench(c.typ, code(c.text)), 0, c.want, 0)
	}
}

func TestHeightOfMany(t *testing.T) {
	for n := range 300 {
		up := strings.Repeat("i64.const 1 ", n)
		down := strings.Repeat("drop ", n)
		wantAnswers(t, "many", bench(typeNone, code(up+down)), 0, n, 0)
		nested := strings.Repeat("i64.const 1 block ( ", n) + strings.Repeat(") drop ", n)
		wantAnswers(t, "many beneath", bench(typeNone, code(nested)), 0, n, 0)
	}
}

// TestBodyChangesNothing of what is handed in.
func TestBodyChangesNothing(t *testing.T) {
	for _, b := range allBodies() {
		for _, text := range slices.Concat(b.may, b.not) {
			m := bench(b.typ, code(text))
			before := copyOf(m)
			err := valid.Body(m, 0)
			height, _ := valid.Height(m, 0)
			if !reflect.DeepEqual(m, before) {
				t.Fatalf("%s was changed", text)
			}
			// And the answer hangs on it alone.
			if again, _ := valid.Height(m, 0); again != height || number(valid.Body(m, 0)) != number(err) {
				t.Errorf("%s: another answer", text)
			}
		}
	}
}

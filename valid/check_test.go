package valid_test

import (
	"math"
	"reflect"
	"slices"
	"strconv"
	"testing"

	"mandrel/api"
	"mandrel/valid"
)

// VA2.

func wantCheck(t *testing.T, what string, m api.Module, f int, want api.Errno) {
	t.Helper()
	before := copyOf(m)
	got, err := valid.Check(m)
	if got != f || number(err) != want {
		t.Errorf("%s: %d, %v, want %d and the error %d", what, got, err, f, want)
	}
	if !reflect.DeepEqual(m, before) {
		t.Errorf("%s: what was handed in was changed", what)
	}
}

// change is something done to a module.
type change struct {
	name string
	do   func(m *api.Module)
}

// holdChanges holds a module that may run, with each change, against what Check should answer, whatever its function 0 does.
func holdChanges(t *testing.T, l []change, f int, want api.Errno) {
	t.Helper()
	for _, c := range l {
		m := bench(typeNone, code("nop"))
		c.do(&m)
		wantCheck(t, c.name, m, f, want)
	}
}

func i32(n int64) api.Instr { return api.Instr{Op: 0x41, N: n} }
func i64(n int64) api.Instr { return api.Instr{Op: 0x42, N: n} }

// mayRun are changes by which it still may.
func mayRun() []change {
	return []change{
		{"nothing", func(m *api.Module) {}},
		{"no module", func(m *api.Module) { *m = api.Module{} }},
		{"types alone", func(m *api.Module) { *m = api.Module{Types: m.Types} }},
		{"two types that are the same", func(m *api.Module) { m.Types = append(m.Types, m.Types[3]) }},
		{"the greatest table", func(m *api.Module) { m.Tables[0] = api.Limits{Min: 256} }},
		{"the greatest memory", func(m *api.Module) { m.Memories[0] = api.Limits{Min: 16} }},
		{"Min is Max", func(m *api.Module) { m.Tables[0] = api.Limits{Min: 256, Has: true, Max: 256} }},
		{"Min is Max of a memory", func(m *api.Module) { m.Memories[0] = api.Limits{Min: 16, Has: true, Max: 16} }},
		{"0 is Max", func(m *api.Module) { m.Memories[0] = api.Limits{Has: true} }},
		{"a great Max", func(m *api.Module) {
			m.Tables[0] = api.Limits{Has: true, Max: math.MaxUint32}
			m.Memories[0] = api.Limits{Min: 1, Has: true, Max: math.MaxUint32}
		}},
		{"a Max that there is not", func(m *api.Module) {
			m.Tables[0] = api.Limits{Min: 3, Max: 2}
			m.Memories[0] = api.Limits{Min: 2, Max: 1}
		}},
		{"the last function in the table", func(m *api.Module) { m.Elems[0].Funcs = []uint32{5} }},
		{"no function in the table", func(m *api.Module) { m.Elems[0].Funcs = nil }},
		{"an Elem beyond the table", func(m *api.Module) { m.Elems[0].Offset = i32(-1) }},
		{"a Data beyond the memory", func(m *api.Module) { m.Datas[0].Offset = i32(math.MaxInt32) }},
		{"two Elems, two Datas", func(m *api.Module) {
			m.Elems = append(m.Elems, m.Elems[0])
			m.Datas = append(m.Datas, m.Datas[0])
		}},
		{"names that are nearly the same", func(m *api.Module) {
			m.Exports = []api.Export{{Name: "a"}, {Name: "A"}, {Name: "a "}, {Name: "aa"}, {Name: ""}, {Name: "\x00"}, {Name: "\xff"}, {Name: "é"}, {Name: "e\u0301"}}
		}},
		{"one thing by two names", func(m *api.Module) { m.Exports = []api.Export{{Name: "a", Index: 5}, {Name: "b", Index: 5}} }},
		{"the last of all", func(m *api.Module) {
			m.Exports = []api.Export{{Name: "f", Index: 5}, {Name: "t", What: 1}, {Name: "m", What: 2}, {Name: "g", What: 3, Index: 2}}
		}},
		{"no table, and none needed", func(m *api.Module) { m.Tables, m.Elems, m.Exports = nil, nil, nil }},
		{"no memory, and none needed", func(m *api.Module) { m.Memories, m.Datas, m.Exports = nil, nil, nil }},
		{"Inits", func(m *api.Module) {
			m.Globals[0].Init, m.Globals[1].Init = i32(math.MinInt32), i64(math.MinInt64)
		}},
	}
}

func TestModulesThatMayRun(t *testing.T) { holdChanges(t, mayRun(), -1, 0) }

// overLimit are changes by which a table or a memory is too great.
func overLimit() []change {
	return []change{
		{"a table", func(m *api.Module) { m.Tables[0].Min = 257 }},
		{"the greatest table there is", func(m *api.Module) { m.Tables[0].Min = math.MaxUint32 }},
		{"a table with Max", func(m *api.Module) { m.Tables[0] = api.Limits{Min: 257, Has: true, Max: 300} }},
		{"a memory", func(m *api.Module) { m.Memories[0].Min = 17 }},
		{"the greatest memory there is", func(m *api.Module) { m.Memories[0] = api.Limits{Min: math.MaxUint32} }},
		{"a second table", func(m *api.Module) { m.Tables = append(m.Tables, api.Limits{Min: 257}) }},
		{"a second memory", func(m *api.Module) { m.Memories = append(m.Memories, api.Limits{Min: 17}) }},
	}
}

// notByItself are changes each of which is one thing that is wrong by itself, a body aside.
func notByItself() []change {
	l := []change{
		{"two tables", func(m *api.Module) { m.Tables = append(m.Tables, api.Limits{}) }},
		{"two memories", func(m *api.Module) { m.Memories = append(m.Memories, api.Limits{}) }},
		{"a table's Min above Max", func(m *api.Module) { m.Tables[0] = api.Limits{Min: 1, Has: true} }},
		{"a table's Min just above Max", func(m *api.Module) { m.Tables[0] = api.Limits{Min: 256, Has: true, Max: 255} }},
		{"a memory's Min above Max", func(m *api.Module) { m.Memories[0] = api.Limits{Min: 16, Has: true, Max: 15} }},
		{"a type that is not there", func(m *api.Module) { m.Funcs[5].Type = 5 }},
		{"a type far beyond", func(m *api.Module) { m.Funcs[0].Type = math.MaxUint32 }},
		{"no types", func(m *api.Module) { *m = api.Module{Funcs: []api.Func{{}}} }},
		{"Init of another kind", func(m *api.Module) { m.Globals[0].Init = i64(0) }},
		{"Init of another kind, of I64", func(m *api.Module) { m.Globals[2].Init = i32(0) }},
		{"Init that is global.get", func(m *api.Module) { m.Globals[2].Init = api.Instr{Op: 0x23, N: 1} }},
		{"Init that is memory.size", func(m *api.Module) { m.Globals[0].Init = api.Instr{Op: 0x3f} }},
		{"Init that is nothing", func(m *api.Module) { m.Globals[1].Init = api.Instr{} }},
		{"Init of points", func(m *api.Module) { m.Globals[1].Init = api.Instr{Op: 0x44} }},
		{"Init that is no instruction", func(m *api.Module) { m.Globals[1].Init = api.Instr{Op: 0xff} }},
		{"a function that is not there", func(m *api.Module) { m.Exports[0].Index = 6 }},
		{"a function far beyond", func(m *api.Module) { m.Exports[4].Index = math.MaxUint32 }},
		{"a table that is not there", func(m *api.Module) { m.Exports[1].Index = 1 }},
		{"a memory that is not there", func(m *api.Module) { m.Exports[2].Index = 1 }},
		{"a global that is not there", func(m *api.Module) { m.Exports[3].Index = 3 }},
		{"an export of no table", func(m *api.Module) { m.Tables, m.Elems = nil, nil }},
		{"an export of no memory", func(m *api.Module) { m.Memories, m.Datas = nil, nil }},
		{"two of one name", func(m *api.Module) { m.Exports[4].Name = "run" }},
		{"two of one name, side by side", func(m *api.Module) { m.Exports[1].Name = "run" }},
		{"two of the empty name", func(m *api.Module) { m.Exports[0].Name = "" }},
		{"the same twice", func(m *api.Module) { m.Exports = append(m.Exports, m.Exports[2]) }},
		{"an Elem's Table", func(m *api.Module) { m.Elems[0].Table = 1 }},
		{"an Elem's Table of two", func(m *api.Module) {
			m.Tables = append(m.Tables, m.Tables[0])
			m.Elems[0].Table = 1
		}},
		{"an Elem without a table", func(m *api.Module) { m.Tables, m.Exports = nil, nil }},
		{"an Elem's Offset of I64", func(m *api.Module) { m.Elems[0].Offset = i64(0) }},
		{"an Elem's Offset that is no const", func(m *api.Module) { m.Elems[0].Offset = api.Instr{Op: 0x23} }},
		{"an Elem's first function", func(m *api.Module) { m.Elems[0].Funcs[0] = 6 }},
		{"an Elem's last function", func(m *api.Module) { m.Elems[0].Funcs[2] = math.MaxUint32 }},
		{"a second Elem's function", func(m *api.Module) {
			m.Elems = append(m.Elems, api.Elem{Offset: i32(0), Funcs: []uint32{6}})
		}},
		{"a Data's Memory", func(m *api.Module) { m.Datas[0].Memory = 1 }},
		{"a Data without a memory", func(m *api.Module) { m.Memories, m.Exports = nil, nil }},
		{"a Data's Offset of I64", func(m *api.Module) { m.Datas[0].Offset = i64(0) }},
		{"a Data's Offset that is no const", func(m *api.Module) { m.Datas[0].Offset = api.Instr{Op: 1} }},
		{"a second Data's Offset", func(m *api.Module) { m.Datas = append(m.Datas, api.Data{}) }},
	}
	for what := 4; what < 256; what++ {
		l = append(l, change{"What " + strconv.Itoa(what), func(m *api.Module) { m.Exports[0].What = byte(what) }})
	}
	return l
}

func TestModulesOverLimit(t *testing.T) { holdChanges(t, overLimit(), -1, api.ErrLimit) }

func TestModulesThatMayNotRun(t *testing.T) {
	holdChanges(t, notByItself(), -1, api.ErrInvalid)
	for what, m := range wrongKinds() {
		wantCheck(t, what, m, -1, api.ErrInvalid)
	}
}

// TestOrderOfErrors: ErrLimit ahead of what else is wrong, that ahead of a body.
func TestOrderOfErrors(t *testing.T) {
	for _, c := range overLimit() {
		for what, m := range wrongKinds() {
			c.do(&m)
			wantCheck(t, c.name+" and "+what, m, -1, api.ErrLimit)
		}
		for _, d := range notByItself()[5:] { // the first ones are of tables and memories
			m := bench(typeNone, code("drop"))
			d.do(&m)
			if len(m.Tables) == 0 || len(m.Memories) == 0 {
				continue
			}
			c.do(&m)
			wantCheck(t, c.name+" and "+d.name, m, -1, api.ErrLimit)
		}
	}
	for _, d := range notByItself() {
		m := bench(typeNone, code("drop"))
		d.do(&m)
		wantCheck(t, d.name+" and a body", m, -1, api.ErrInvalid)
	}
}

// TestFirstBody: each set of bodies that may not run.
func TestFirstBody(t *testing.T) {
	whole := bench(typeNone, nil)
	for set := range 1 << len(whole.Funcs) {
		m := copyOf(whole)
		first, want := -1, api.Errno(0)
		for f := range slices.Backward(m.Funcs) {
			if set>>f&1 == 1 {
				m.Funcs[f].Body = append(m.Funcs[f].Body, api.Instr{Op: 0x1a}, api.Instr{Op: 0x1a})
				first, want = f, api.ErrInvalid
			}
		}
		wantCheck(t, "set "+strconv.Itoa(set), m, first, want)
	}
}

// TestCheckIsBody: Check tells the first function of which Body says that it may not run.
func TestCheckIsBody(t *testing.T) {
	l := made(3, 3000)
	for i := range l {
		if i < 2 {
			continue
		}
		// Function 1 and 2 are of types of their own, so that some of these bodies may not run by them.
		m := l[i]
		m.Funcs[1].Body, m.Funcs[2].Body = l[i-1].Funcs[0].Body, l[i-2].Funcs[0].Body
		first, want := -1, api.Errno(0)
		for f := range m.Funcs {
			if valid.Body(m, f) != nil {
				first, want = f, api.ErrInvalid
				break
			}
		}
		wantCheck(t, told(m.Funcs[0].Body), m, first, want)
	}
}

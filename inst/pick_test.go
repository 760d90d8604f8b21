package inst_test

import (
	"math"
	"math/rand"
	"reflect"
	"slices"
	"testing"

	"mandrel/api"
	"mandrel/inst"
)

// IN3: Pick.

type picked struct {
	f    int
	trap api.Trap
	err  api.Errno
}

func holdPick(t *testing.T, what string, m api.Module, s *inst.State, typ int64, at uint64, want picked) {
	t.Helper()
	beforeModule := copyOf(m)
	var beforeTable []int
	if s != nil {
		beforeTable = slices.Clone(s.Table)
	}
	f, trap, err := inst.Pick(m, s, typ, at)
	if got := (picked{f, trap, number(err)}); got != want {
		t.Errorf("%s: Pick of type %d at %d: %v, want %v", what, typ, at, got, want)
	}
	unchanged(t, what, m, beforeModule)
	if s != nil && !slices.Equal(s.Table, beforeTable) {
		t.Errorf("%s: the table was changed", what)
	}
}

func TestPick(t *testing.T) {
	m := bench()
	s := begun(t, m)
	for _, c := range []struct {
		what string
		typ  int64
		at   uint64
		want picked
	}{
		{"the first", typeNone, 0, picked{f: 0}},
		{"one I32", typeI32, 1, picked{f: 1}},
		{"many", typeOfMany, 6, picked{f: 6}},
		{"upper bits", typeBoth, 3 | 1<<32, picked{f: 3}},
		{"all upper bits", typeBoth, 3 | math.MaxUint32<<32, picked{f: 3}},
		{"the type told twice", typeNoneAgain, 0, picked{f: 0}},
		{"the type told twice, the other way", typeNone, 7, picked{f: 7}},
		{"a type that gives, told twice", typeGivesAgain, 5, picked{f: 5}},
		{"a type that gives, the other way", typeGives, 8, picked{f: 8}},

		{"other Params", typeI32, 2, picked{trap: api.Mismatch}},
		{"other Params, turned", typeBoth, 4, picked{trap: api.Mismatch}},
		{"fewer Params", typeI32, 3, picked{trap: api.Mismatch}},
		{"more Params", typeBoth, 1, picked{trap: api.Mismatch}},
		{"none for some", typeI32, 0, picked{trap: api.Mismatch}},
		{"some for none", typeNone, 1, picked{trap: api.Mismatch}},
		{"the same Params, another Result", typeI32, 5, picked{trap: api.Mismatch}},
		{"the same Params, no Result", typeGives, 1, picked{trap: api.Mismatch}},

		{"no function", typeNone, 9, picked{trap: api.Element}},
		{"no function at the last place", typeNone, 11, picked{trap: api.Element}},
		{"just beyond", typeNone, 12, picked{trap: api.Element}},
		{"just beyond, with upper bits", typeNone, 12 | 1<<32, picked{trap: api.Element}},
		{"far beyond", typeNone, math.MaxUint32, picked{trap: api.Element}},
		{"-1", typeNone, math.MaxUint64, picked{trap: api.Element}},
		{"2^31", typeNone, 1 << 31, picked{trap: api.Element}},

		{"type -1", -1, 0, picked{err: api.ErrArg}},
		{"just no type", 9, 0, picked{err: api.ErrArg}},
		{"a type far beyond", math.MaxInt64, 0, picked{err: api.ErrArg}},
		{"a type far below", math.MinInt64, 0, picked{err: api.ErrArg}},
		{"a type whose lower bits are one", 1 << 32, 0, picked{err: api.ErrArg}},
		{"no type, and beyond", 9, 99, picked{err: api.ErrArg}},
	} {
		holdPick(t, c.what, m, s, c.typ, c.at, c.want)
		holdPick(t, c.what+", of no state", m, nil, c.typ, c.at, picked{err: api.ErrArg})
	}
	if !inst.Same(s, begun(t, bench())) {
		t.Error("Pick changed the state")
	}
}

// The same Params with another Result of two that both give something.
func TestPickOfAnotherResult(t *testing.T) {
	m := api.Module{
		Types:  []api.Type{{Result: api.I32}, {Result: api.I64}},
		Funcs:  []api.Func{{Type: 0, Body: []api.Instr{i32(0)}}, {Type: 1, Body: []api.Instr{i64(0)}}},
		Tables: []api.Limits{{Min: 2}},
		Elems:  []api.Elem{{Offset: i32(0), Funcs: []uint32{1, 0}}},
	}
	s := begun(t, m)
	holdPick(t, "I32", m, s, 0, 1, picked{f: 0})
	holdPick(t, "I64", m, s, 1, 0, picked{f: 1})
	holdPick(t, "I64 for I32", m, s, 0, 0, picked{trap: api.Mismatch})
	holdPick(t, "I32 for I64", m, s, 1, 1, picked{trap: api.Mismatch})
}

// A state, and a module, may be any: not only those that New answered, and took.
func TestPickOfWhatCannotRun(t *testing.T) {
	m := bench()
	m.Funcs[2].Type, m.Funcs[3].Type = 9, math.MaxUint32
	s := &inst.State{Table: []int{-1, -2, math.MinInt, 9, math.MaxInt, 2, 3, 8}}
	for at := range uint64(7) {
		holdPick(t, "no function, or none with a type", m, s, typeNone, at, picked{trap: api.Element})
	}
	holdPick(t, "one with a type", m, s, typeGives, 7, picked{f: 8})
	holdPick(t, "no table", m, &inst.State{}, typeNone, 0, picked{trap: api.Element})
	holdPick(t, "no types", api.Module{Funcs: make([]api.Func, 1)}, &inst.State{Table: []int{0}}, 0, 0, picked{err: api.ErrArg})
	holdPick(t, "no functions", api.Module{Types: []api.Type{{}}}, &inst.State{Table: []int{0}}, 0, 0, picked{trap: api.Element})
}

// pickedAgain reads the rule of Pick anew.
func pickedAgain(m api.Module, s *inst.State, typ int64, at uint64) picked {
	for n, want := range m.Types {
		if int64(n) != typ || s == nil {
			continue
		}
		for place, f := range s.Table {
			if uint64(place) != at%(1<<32) {
				continue
			}
			if f < 0 || f >= len(m.Funcs) || uint64(m.Funcs[f].Type) >= uint64(len(m.Types)) {
				break
			}
			has := m.Types[m.Funcs[f].Type]
			if !reflect.DeepEqual(append([]api.Kind{has.Result}, has.Params...), append([]api.Kind{want.Result}, want.Params...)) {
				return picked{trap: api.Mismatch}
			}
			return picked{f: f}
		}
		return picked{trap: api.Element}
	}
	return picked{err: api.ErrArg}
}

func TestPickAgainstASecondReading(t *testing.T) {
	r := rand.New(rand.NewSource(5))
	seen := map[picked]int{}
	for range 2000 {
		m := bench()
		s := &inst.State{}
		for range r.Intn(5) {
			s.Table = append(s.Table, r.Intn(13)-2)
		}
		for i := range m.Funcs {
			m.Funcs[i].Type = uint32(r.Intn(10))
		}
		for typ := int64(-1); typ < 10; typ++ {
			for at := range uint64(6) {
				at |= uint64(r.Intn(3)) << 32
				want := pickedAgain(m, s, typ, at)
				holdPick(t, "made", m, s, typ, at, want)
				seen[picked{trap: want.trap, err: want.err}]++
			}
		}
	}
	for _, p := range []picked{{}, {trap: api.Mismatch}, {trap: api.Element}, {err: api.ErrArg}} {
		if seen[p] < 1000 {
			t.Errorf("of %v there were only %d", p, seen[p])
		}
	}
}

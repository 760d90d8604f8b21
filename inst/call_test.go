package inst_test

import (
	"math"
	"slices"
	"testing"

	"mandrel/api"
	"mandrel/inst"
)

// IN2.

func TestFind(t *testing.T) {
	m := bench()
	for _, c := range []struct {
		name string
		f    int
		want api.Errno
	}{
		{"f", 3, 0},
		{"", 8, 0},
		{"t", 0, api.ErrNone}, // a table
		{"m", 0, api.ErrNone}, // a memory
		{"g", 0, api.ErrNone}, // a global
		{"F", 0, api.ErrNone},
		{"ff", 0, api.ErrNone},
		{"f\x00", 0, api.ErrNone},
		{"no such", 0, api.ErrNone},
	} {
		f, err := inst.Find(m, c.name)
		if f != c.f || number(err) != c.want {
			t.Errorf("Find of %q: %d, %v, want %d and the error %d", c.name, f, err, c.f, c.want)
		}
	}
	unchanged(t, "Find", m, bench())
	if f, err := inst.Find(api.Module{}, ""); f != 0 || number(err) != api.ErrNone {
		t.Errorf("Find in no module: %d, %v", f, err)
	}
}

// Of a module that may not run as one name stands twice, the first function's holds, behind other things of that name too.
func TestFindTheFirst(t *testing.T) {
	m := bench()
	m.Exports = []api.Export{
		{Name: "a", What: 3, Index: 1}, {Name: "b", Index: 2}, {Name: "a", What: 1}, {Name: "a", What: 4, Index: 6},
		{Name: "a", Index: 4}, {Name: "a", Index: 5}, {Name: "b", Index: 1}, {Name: "a", What: 2},
	}
	for name, want := range map[string]int{"a": 4, "b": 2} {
		if f, err := inst.Find(m, name); f != want || err != nil {
			t.Errorf("Find of %q: %d, %v, want %d", name, f, err, want)
		}
	}
}

// Names are bytes: those that are no text have just themselves.
func TestFindByBytes(t *testing.T) {
	m := api.Module{Types: []api.Type{{}}, Funcs: make([]api.Func, 4), Exports: []api.Export{{Name: "\xff", Index: 1}, {Name: "é", Index: 2}, {Name: "e\u0301", Index: 3}}}
	for name, want := range map[string]int{"\xff": 1, "é": 2, "e\u0301": 3} {
		if f, err := inst.Find(m, name); f != want || err != nil {
			t.Errorf("Find of %q: %d, %v, want %d", name, f, err, want)
		}
	}
	for _, name := range []string{"\xfe", "\uFFFD", "É"} {
		if f, err := inst.Find(m, name); f != 0 || number(err) != api.ErrNone {
			t.Errorf("Find of %q: %d, %v", name, f, err)
		}
	}
}

func TestFits(t *testing.T) {
	const top = math.MaxUint64
	for _, c := range []struct {
		what string
		f    int
		args []uint64
		want api.Errno
	}{
		{"none", typeNone, nil, 0},
		{"an empty list", typeNone, []uint64{}, 0},
		{"one I32", typeI32, []uint64{7}, 0},
		{"the least I32", typeI32, []uint64{0}, 0},
		{"the greatest I32", typeI32, []uint64{1<<32 - 1}, 0},
		{"one I64", typeI64, []uint64{1 << 32}, 0},
		{"the greatest I64", typeI64, []uint64{top}, 0},
		{"both kinds", typeBoth, []uint64{1<<32 - 1, top}, 0},
		{"both kinds, turned", typeTurned, []uint64{top, 1<<32 - 1}, 0},
		{"many", typeOfMany, []uint64{1, 2, top, 4}, 0},

		{"no such function", -1, nil, api.ErrArg},
		{"just no such function", 9, nil, api.ErrArg},
		{"far beyond", math.MaxInt, nil, api.ErrArg},
		{"far below", math.MinInt, nil, api.ErrArg},
		{"one for none", typeNone, []uint64{0}, api.ErrArg},
		{"none for one", typeI32, nil, api.ErrArg},
		{"two for one", typeI32, []uint64{0, 0}, api.ErrArg},
		{"too few", typeOfMany, []uint64{1, 2, 3}, api.ErrArg},
		{"too many", typeOfMany, []uint64{1, 2, 3, 4, 5}, api.ErrArg},
		{"2^32 for an I32", typeI32, []uint64{1 << 32}, api.ErrArg},
		{"below 0 for an I32", typeI32, []uint64{top}, api.ErrArg},
		{"2^63 for an I32", typeGives, []uint64{1 << 63}, api.ErrArg},
		{"the first of both", typeBoth, []uint64{1 << 32, 0}, api.ErrArg},
		{"the second of both", typeTurned, []uint64{0, 1 << 32}, api.ErrArg},
		{"the first of many", typeOfMany, []uint64{1 << 32, 0, 0, 0}, api.ErrArg},
		{"the second of many", typeOfMany, []uint64{0, 1 << 32, 0, 0}, api.ErrArg},
		{"the last of many", typeOfMany, []uint64{0, 0, 0, 1 << 32}, api.ErrArg},
	} {
		m, args := bench(), slices.Clone(c.args)
		if err := inst.Fits(m, c.f, args); number(err) != c.want {
			t.Errorf("%s: %v, want the error %d", c.what, err, c.want)
		}
		unchanged(t, c.what, m, bench())
		if !slices.Equal(args, c.args) {
			t.Errorf("%s: the values were changed to %v", c.what, args)
		}
	}
}

func TestFitsWithoutAType(t *testing.T) {
	m := api.Module{Types: []api.Type{{}}, Funcs: []api.Func{{}, {Type: 1}, {Type: math.MaxUint32}}}
	for f, want := range []api.Errno{0, api.ErrArg, api.ErrArg} {
		if err := inst.Fits(m, f, nil); number(err) != want {
			t.Errorf("Fits of function %d: %v, want the error %d", f, err, want)
		}
	}
	if err := inst.Fits(api.Module{}, 0, nil); number(err) != api.ErrArg {
		t.Errorf("Fits of no module: %v", err)
	}
	if err := inst.Fits(api.Module{Funcs: make([]api.Func, 1)}, 0, nil); number(err) != api.ErrArg {
		t.Errorf("Fits without types: %v", err)
	}
}

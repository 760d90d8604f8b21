package inst_test

import (
	"bytes"
	"slices"
	"testing"

	"mandrel/api"
	"mandrel/inst"
	"mandrel/mem"
)

// IN4.

// holdSame asks both ways round, and whether both states are left as they are.
func holdSame(t *testing.T, what string, a, b *inst.State, want bool) {
	t.Helper()
	beforeA, beforeB := told(t, a), told(t, b)
	if inst.Same(a, b) != want || inst.Same(b, a) != want {
		t.Errorf("%s: %v and %v, want %v", what, inst.Same(a, b), inst.Same(b, a), want)
	}
	if !inst.Same(a, a) || !inst.Same(b, b) {
		t.Errorf("%s: one is not the same as itself", what)
	}
	if !beforeA.is(told(t, a)) || !beforeB.is(told(t, b)) {
		t.Errorf("%s: a state was changed", what)
	}
}

// tale is all of a state, copied.
type tale struct {
	table   []int
	globals []uint64
	bytes   []byte
}

func told(t *testing.T, s *inst.State) tale {
	t.Helper()
	if s == nil {
		return tale{}
	}
	return tale{slices.Clone(s.Table), slices.Clone(s.Globals), all(t, s.Mem)}
}

func (a tale) is(b tale) bool {
	return slices.Equal(a.table, b.table) && slices.Equal(a.globals, b.globals) && bytes.Equal(a.bytes, b.bytes)
}

func TestSameOfNil(t *testing.T) {
	holdSame(t, "nil and nil", nil, nil, true)
	holdSame(t, "nil and nothing", nil, &inst.State{}, false)
	holdSame(t, "nil and bench", nil, begun(t, bench()), false)
	holdSame(t, "nothing and nothing", &inst.State{}, &inst.State{}, true)
	holdSame(t, "nil and empty lists", &inst.State{}, &inst.State{Table: []int{}, Globals: []uint64{}}, true)
}

// set stores a byte.
func set(t *testing.T, m *mem.Memory, at int, b byte) {
	t.Helper()
	if !m.Store(uint64(at), 0, 1, uint64(b)) {
		t.Fatalf("there is no byte %d", at)
	}
}

func TestSame(t *testing.T) {
	for _, c := range []struct {
		what   string
		change func(s *inst.State)
		want   bool
	}{
		{"nothing", func(s *inst.State) {}, true},
		{"the first byte", func(s *inst.State) { set(t, s.Mem, 0, 1) }, false},
		{"a byte that a Data laid", func(s *inst.State) { set(t, s.Mem, 11, 'B') }, false},
		{"the highest bit of a byte", func(s *inst.State) { set(t, s.Mem, 100, 128) }, false},
		{"the last byte", func(s *inst.State) { set(t, s.Mem, 4095, 1) }, false},
		{"a byte and back", func(s *inst.State) { set(t, s.Mem, 5, 1); set(t, s.Mem, 5, 0) }, true},
		{"two bytes that change places", func(s *inst.State) { set(t, s.Mem, 10, 'b'); set(t, s.Mem, 11, 'a') }, false},
		{"a page", func(s *inst.State) { s.Mem.Grow(1) }, false},
		{"no page", func(s *inst.State) { s.Mem.Grow(0) }, true},
		{"no memory", func(s *inst.State) { s.Mem = nil }, false},
		{"a memory of none", func(s *inst.State) { s.Mem = memory(t, 0) }, false},
		{"the first entry", func(s *inst.State) { s.Table[0] = 7 }, false},
		{"the last entry", func(s *inst.State) { s.Table[11] = 0 }, false},
		{"one entry less", func(s *inst.State) { s.Table = s.Table[:11] }, false},
		{"one entry more", func(s *inst.State) { s.Table = append(s.Table, -1) }, false},
		{"no table", func(s *inst.State) { s.Table = nil }, false},
		{"two entries that change places", func(s *inst.State) { s.Table[0], s.Table[1] = 1, 0 }, false},
		{"the first global", func(s *inst.State) { s.Globals[0]++ }, false},
		{"the last global", func(s *inst.State) { s.Globals[1]-- }, false},
		{"an upper bit of a global", func(s *inst.State) { s.Globals[1] |= 1 << 63 }, false},
		{"one global less", func(s *inst.State) { s.Globals = s.Globals[:1] }, false},
		{"one global more", func(s *inst.State) { s.Globals = append(s.Globals, 0) }, false},
		{"no globals", func(s *inst.State) { s.Globals = nil }, false},
	} {
		a, b := begun(t, bench()), begun(t, bench())
		c.change(b)
		holdSame(t, c.what, a, b, c.want)
		if !c.want {
			c.change(a)
			holdSame(t, c.what+" of both", a, b, true)
		}
	}
}

// Every single byte that is another one is seen, on all pages.
func TestSameByEachByte(t *testing.T) {
	m := api.Module{Memories: []api.Limits{{Min: 3}}}
	a, b := begun(t, m), begun(t, m)
	for at := 0; at < 3*4096; at += 61 {
		set(t, b.Mem, at, 1)
		if inst.Same(a, b) {
			t.Errorf("the byte %d is not seen", at)
		}
		set(t, b.Mem, at, 0)
	}
	holdSame(t, "as at first", a, b, true)
}

// How many pages there may be is no part of what is the same, only how many there are.
func TestSameWithAnotherMost(t *testing.T) {
	begin := func(l api.Limits) *inst.State { return begun(t, api.Module{Memories: []api.Limits{l}}) }
	a, b := begin(api.Limits{Min: 1}), begin(api.Limits{Min: 1, Has: true, Max: 3})
	holdSame(t, "another most", a, b, true)
	a.Mem.Grow(1)
	holdSame(t, "one grown", a, b, false)
	b.Mem.Grow(1)
	holdSame(t, "both grown", a, b, true)
	holdSame(t, "grown and begun", a, begin(api.Limits{Min: 2}), true)
	holdSame(t, "no pages, and no memory", begin(api.Limits{}), begun(t, api.Module{}), false)
	holdSame(t, "no pages", begin(api.Limits{}), begin(api.Limits{Has: true}), true)
}

// A state that shares parts with another one is the same as it, as long as they hold the same.
func TestSameOfSharedParts(t *testing.T) {
	a := begun(t, bench())
	b := &inst.State{Mem: a.Mem, Table: a.Table, Globals: a.Globals}
	holdSame(t, "all shared", a, b, true)
	set(t, a.Mem, 9, 9)
	holdSame(t, "all shared, and changed", a, b, true)
	b.Globals = []uint64{0, 0}
	holdSame(t, "other globals", a, b, false)
}

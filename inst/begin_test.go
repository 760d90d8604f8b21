package inst_test

import (
	"math"
	"math/big"
	"math/rand"
	"reflect"
	"slices"
	"strconv"
	"testing"

	"mandrel/api"
	"mandrel/inst"
	"mandrel/mem"
)

// IN1.

// first is what a module begins with, as it is told here.
type first struct {
	trap    api.Trap
	pages   int // -1: no memory
	bytes   map[int]byte
	table   []int
	globals []uint64
}

// hold holds what New answers against what it should be.
func hold(t *testing.T, what string, m api.Module, want first) {
	t.Helper()
	before := copyOf(m)
	s, trap, err := inst.New(m)
	unchanged(t, what, m, before)
	if trap != want.trap {
		t.Errorf("%s: the trap %d, want %d", what, trap, want.trap)
		return
	}
	if want.trap != api.Well {
		if s != nil || number(err) != api.ErrTrap {
			t.Errorf("%s: %v and %v, want no state and the error %d", what, s, err, api.ErrTrap)
		}
		return
	}
	if s == nil || err != nil {
		t.Errorf("%s: %v and %v, want a state", what, s, err)
		return
	}
	if !slices.Equal(s.Table, want.table) || !slices.Equal(s.Globals, want.globals) {
		t.Errorf("%s: table %v, globals %v, want %v, %v", what, s.Table, s.Globals, want.table, want.globals)
	}
	holdMemory(t, what, s.Mem, want)
}

func holdMemory(t *testing.T, what string, m *mem.Memory, want first) {
	t.Helper()
	if (m == nil) != (want.pages < 0) {
		t.Errorf("%s: whether there is no memory: %v", what, m == nil)
		return
	}
	if m == nil {
		return
	}
	if m.Pages() != want.pages {
		t.Errorf("%s: %d pages, want %d", what, m.Pages(), want.pages)
	}
	for i, b := range all(t, m) {
		if b != want.bytes[i] {
			t.Errorf("%s: the byte %d is %d, want %d", what, i, b, want.bytes[i])
		}
	}
}

func TestTheExample(t *testing.T) {
	m := api.Module{Memories: []api.Limits{{Min: 1}}, Datas: []api.Data{{Offset: i32(4096)}}}
	hold(t, "no bytes at the end", m, first{pages: 1})
	m.Datas[0].Bytes = []byte{1}
	hold(t, "one byte at the end", m, first{trap: api.Bounds})
}

func TestNothingToBeginWith(t *testing.T) {
	hold(t, "no module", api.Module{}, first{pages: -1})
	hold(t, "a table of none", api.Module{Tables: []api.Limits{{}}}, first{pages: -1})
	hold(t, "a memory of none", api.Module{Memories: []api.Limits{{}}}, first{pages: 0})
	s := begun(t, api.Module{})
	if s.Mem != nil || len(s.Table) != 0 || len(s.Globals) != 0 {
		t.Errorf("no module: %v", *s)
	}
}

func TestAllTogether(t *testing.T) {
	hold(t, "bench", bench(), first{
		pages:   1,
		bytes:   map[int]byte{10: 'a', 11: 'b', 12: 'c'},
		table:   []int{0, 1, 2, 3, 4, 5, 6, 7, 8, -1, -1, -1},
		globals: []uint64{5, 6},
	})
}

// fault is something done to a module, so that it may not run, and layer 8's error.
type fault struct {
	change func(m *api.Module)
	want   api.Errno
}

func faults() map[string]fault {
	return map[string]fault{
		"a table that is too great":         {func(m *api.Module) { m.Tables[0] = api.Limits{Min: 257} }, api.ErrLimit},
		"a memory that is too great":        {func(m *api.Module) { m.Memories[0] = api.Limits{Min: 17} }, api.ErrLimit},
		"too great, and a body":             {func(m *api.Module) { m.Memories[0] = api.Limits{Min: 17}; m.Funcs[0].Body = []api.Instr{{Op: 0x1a}} }, api.ErrLimit},
		"two memories":                      {func(m *api.Module) { m.Memories = append(m.Memories, api.Limits{}) }, api.ErrInvalid},
		"Min above Max":                     {func(m *api.Module) { m.Memories[0] = api.Limits{Min: 2, Has: true, Max: 1} }, api.ErrInvalid},
		"an Init of another kind":           {func(m *api.Module) { m.Globals[0].Init = i64(5) }, api.ErrInvalid},
		"an Elem without a table":           {func(m *api.Module) { m.Tables, m.Exports = nil, nil }, api.ErrInvalid},
		"a Data without a memory":           {func(m *api.Module) { m.Memories, m.Exports = nil, nil }, api.ErrInvalid},
		"a Data of another memory":          {func(m *api.Module) { m.Datas[0].Memory = 1 }, api.ErrInvalid},
		"an Elem's function":                {func(m *api.Module) { m.Elems[0].Funcs[3] = 9 }, api.ErrInvalid},
		"an Offset of I64":                  {func(m *api.Module) { m.Elems[0].Offset = i64(0) }, api.ErrInvalid},
		"one name twice":                    {func(m *api.Module) { m.Exports[1].Name = "f" }, api.ErrInvalid},
		"a kind that is none":               {func(m *api.Module) { m.Globals[0].Kind = 0x7d }, api.ErrInvalid},
		"a type that is not there":          {func(m *api.Module) { m.Funcs[0].Type = 9 }, api.ErrInvalid},
		"a body":                            {func(m *api.Module) { m.Funcs[0].Body = []api.Instr{{Op: 0x1a}} }, api.ErrInvalid},
		"the last body":                     {func(m *api.Module) { m.Funcs[8].Body = nil }, api.ErrInvalid},
		"a body, and an Elem and a Data":    {func(m *api.Module) { m.Funcs[8].Body = nil; misfit(m) }, api.ErrInvalid},
		"too great, and an Elem and a Data": {func(m *api.Module) { m.Tables[0] = api.Limits{Min: 300}; misfit(m) }, api.ErrLimit},
	}
}

// misfit makes an Elem and a Data that do not fit.
func misfit(m *api.Module) {
	m.Elems[0].Offset, m.Datas[0].Offset = i32(-1), i32(-1)
}

func TestWhatMayNotRun(t *testing.T) {
	for what, c := range faults() {
		m := bench()
		c.change(&m)
		before := copyOf(m)
		s, trap, err := inst.New(m)
		if s != nil || trap != api.Well || number(err) != c.want {
			t.Errorf("%s: %v, %d, %v, want the error %d", what, s, trap, err, c.want)
		}
		unchanged(t, what, m, before)
	}
}

func TestElemsOfATable(t *testing.T) {
	for _, c := range []struct {
		what  string
		elems []api.Elem
		trap  api.Trap
		table []int
	}{
		{"none", nil, api.Well, []int{-1, -1, -1}},
		{"all", []api.Elem{{Offset: i32(0), Funcs: []uint32{2, 1, 0}}}, api.Well, []int{2, 1, 0}},
		{"the last", []api.Elem{{Offset: i32(2), Funcs: []uint32{1}}}, api.Well, []int{-1, -1, 1}},
		{"just at the end", []api.Elem{{Offset: i32(1), Funcs: []uint32{1, 0}}}, api.Well, []int{-1, 1, 0}},
		{"one too many", []api.Elem{{Offset: i32(0), Funcs: []uint32{0, 0, 0, 0}}}, api.Element, nil},
		{"one further", []api.Elem{{Offset: i32(2), Funcs: []uint32{1, 0}}}, api.Element, nil},
		{"one at the end", []api.Elem{{Offset: i32(3), Funcs: []uint32{1}}}, api.Element, nil},
		{"nothing at the end", []api.Elem{{Offset: i32(3)}}, api.Well, []int{-1, -1, -1}},
		{"nothing beyond", []api.Elem{{Offset: i32(4)}}, api.Element, nil},
		{"nothing, without a sign", []api.Elem{{Offset: i32(-1)}}, api.Element, nil},
		{"without a sign", []api.Elem{{Offset: i32(-1), Funcs: []uint32{0}}}, api.Element, nil},
		{"without a sign, far", []api.Elem{{Offset: i32(math.MinInt32), Funcs: []uint32{0}}}, api.Element, nil},
		{"without a sign, and back", []api.Elem{{Offset: i32(-3), Funcs: []uint32{0, 0, 0, 1, 2}}}, api.Element, nil},
		{"later over earlier", []api.Elem{{Offset: i32(0), Funcs: []uint32{0, 0, 0}}, {Offset: i32(1), Funcs: []uint32{2}}, {Offset: i32(1), Funcs: []uint32{1, 2}}}, api.Well, []int{0, 1, 2}},
		{"the second", []api.Elem{{Offset: i32(0), Funcs: []uint32{0}}, {Offset: i32(3), Funcs: []uint32{0}}}, api.Element, nil},
		{"the first", []api.Elem{{Offset: i32(3), Funcs: []uint32{0}}, {Offset: i32(0), Funcs: []uint32{0}}}, api.Element, nil},
	} {
		m := api.Module{Types: []api.Type{{}}, Funcs: make([]api.Func, 3), Tables: []api.Limits{{Min: 3}}, Elems: c.elems}
		hold(t, c.what, m, first{trap: c.trap, pages: -1, table: c.table})
	}
}

func TestDatasOfAMemory(t *testing.T) {
	for _, c := range []struct {
		what  string
		datas []api.Data
		trap  api.Trap
		bytes map[int]byte
	}{
		{"none", nil, api.Well, nil},
		{"the first", []api.Data{{Offset: i32(0), Bytes: []byte{7, 255}}}, api.Well, map[int]byte{0: 7, 1: 255}},
		{"from one page to the next", []api.Data{{Offset: i32(4095), Bytes: []byte{7, 8}}}, api.Well, map[int]byte{4095: 7, 4096: 8}},
		{"the last", []api.Data{{Offset: i32(8191), Bytes: []byte{9}}}, api.Well, map[int]byte{8191: 9}},
		{"just at the end", []api.Data{{Offset: i32(8189), Bytes: []byte{1, 2, 3}}}, api.Well, map[int]byte{8189: 1, 8190: 2, 8191: 3}},
		{"one further", []api.Data{{Offset: i32(8190), Bytes: []byte{1, 2, 3}}}, api.Bounds, nil},
		{"one at the end", []api.Data{{Offset: i32(8192), Bytes: []byte{0}}}, api.Bounds, nil},
		{"nothing at the end", []api.Data{{Offset: i32(8192)}}, api.Well, nil},
		{"nothing beyond", []api.Data{{Offset: i32(8193)}}, api.Bounds, nil},
		{"nothing, without a sign", []api.Data{{Offset: i32(-1)}}, api.Bounds, nil},
		{"without a sign", []api.Data{{Offset: i32(-8192), Bytes: []byte{1}}}, api.Bounds, nil},
		{"without a sign, and back", []api.Data{{Offset: i32(-1), Bytes: []byte{1, 2, 3}}}, api.Bounds, nil},
		{"later over earlier", []api.Data{{Offset: i32(5), Bytes: []byte("later")}, {Offset: i32(6), Bytes: []byte{0}}, {Offset: i32(4), Bytes: []byte{1, 2}}}, api.Well,
			map[int]byte{4: 1, 5: 2, 7: 't', 8: 'e', 9: 'r'}},
		{"the second", []api.Data{{Offset: i32(0), Bytes: []byte{1}}, {Offset: i32(8192), Bytes: []byte{1}}}, api.Bounds, nil},
	} {
		m := api.Module{Memories: []api.Limits{{Min: 2}}, Datas: c.datas}
		hold(t, c.what, m, first{trap: c.trap, pages: 2, bytes: c.bytes})
	}
}

func TestElemsAreAheadOfDatas(t *testing.T) {
	m := bench()
	misfit(&m)
	hold(t, "both", m, first{trap: api.Element})
	m.Elems[0].Offset = i32(0)
	hold(t, "the Data", m, first{trap: api.Bounds})
	// The last Elem is still ahead of the first Data.
	m.Elems = append(m.Elems, api.Elem{Offset: i32(12), Funcs: []uint32{0}})
	hold(t, "the last Elem", m, first{trap: api.Element})
}

func TestTheLargest(t *testing.T) {
	m := api.Module{
		Types:    []api.Type{{}},
		Funcs:    make([]api.Func, 300),
		Tables:   []api.Limits{{Min: 256}},
		Memories: []api.Limits{{Min: 16}},
		Elems:    []api.Elem{{Offset: i32(254), Funcs: []uint32{299, 256}}},
		Datas:    []api.Data{{Offset: i32(65535), Bytes: []byte{3}}},
	}
	table := slices.Repeat([]int{-1}, 256)
	table[254], table[255] = 299, 256
	hold(t, "the largest", m, first{pages: 16, bytes: map[int]byte{65535: 3}, table: table})
	m.Elems[0].Offset = i32(255)
	hold(t, "the largest table", m, first{trap: api.Element})
	m.Elems, m.Datas[0].Offset = nil, i32(65536)
	hold(t, "the largest memory", m, first{trap: api.Bounds})
}

func TestPagesThatThereMayBe(t *testing.T) {
	for _, c := range []struct {
		l    api.Limits
		most int
	}{
		{api.Limits{}, 16},
		{api.Limits{Min: 3}, 16},
		{api.Limits{Min: 16}, 16},
		{api.Limits{Min: 1, Max: 2}, 16}, // Has is false: there is no most
		{api.Limits{Min: 2, Max: 1}, 16},
		{api.Limits{Has: true}, 0},
		{api.Limits{Min: 1, Has: true, Max: 1}, 1},
		{api.Limits{Min: 1, Has: true, Max: 5}, 5},
		{api.Limits{Min: 0, Has: true, Max: 15}, 15},
		{api.Limits{Min: 4, Has: true, Max: 16}, 16},
		{api.Limits{Min: 4, Has: true, Max: 17}, 16},
		{api.Limits{Min: 16, Has: true, Max: math.MaxUint32}, 16},
	} {
		s := begun(t, api.Module{Memories: []api.Limits{c.l}})
		left := c.most - int(c.l.Min)
		if s.Mem.Pages() != int(c.l.Min) {
			t.Errorf("%v: %d pages", c.l, s.Mem.Pages())
		}
		if got := s.Mem.Grow(uint64(left) + 1); got != -1 {
			t.Errorf("%v: grown to more than %d: %d", c.l, c.most, got)
		}
		if got := s.Mem.Grow(uint64(left)); got != int(c.l.Min) {
			t.Errorf("%v: grown to %d: %d", c.l, c.most, got)
		}
	}
}

func TestATableHasAsManyAsAtLeast(t *testing.T) {
	for _, l := range []api.Limits{{}, {Min: 1}, {Min: 7, Has: true, Max: 7}, {Min: 7, Has: true, Max: 9}, {Min: 7, Max: 3}, {Min: 256, Has: true, Max: math.MaxUint32}} {
		hold(t, "a table", api.Module{Tables: []api.Limits{l}}, first{pages: -1, table: slices.Repeat([]int{-1}, int(l.Min))})
	}
}

func TestGlobals(t *testing.T) {
	m := api.Module{}
	want := first{pages: -1}
	for _, c := range []struct {
		init api.Instr
		want uint64
	}{
		{i32(0), 0},
		{i32(1), 1},
		{i32(-1), 1<<32 - 1},
		{i32(math.MaxInt32), 1<<31 - 1},
		{i32(math.MinInt32), 1 << 31},
		{i64(0), 0},
		{i64(-1), math.MaxUint64},
		{i64(-5), math.MaxUint64 - 4},
		{i64(1 << 32), 1 << 32},
		{i64(math.MaxInt64), 1<<63 - 1},
		{i64(math.MinInt64), 1 << 63},
	} {
		kind := api.I32
		if c.init.Op == 0x42 {
			kind = api.I64
		}
		m.Globals = append(m.Globals, api.Global{Kind: kind, Mut: len(m.Globals)%2 == 0, Init: c.init})
		want.globals = append(want.globals, c.want)
		hold(t, "globals", m, want)
	}
}

// A number of I32 that is none is one modulo 2^32, as it is wherever a const of I32 stands.
func TestNumbersModulo(t *testing.T) {
	m := bench()
	m.Globals[0].Init = i32(1<<32 + 5)
	m.Elems[0].Offset, m.Datas[0].Offset = i32(1<<32), i32(10-1<<32)
	if !inst.Same(begun(t, m), begun(t, bench())) {
		t.Error("a number modulo 2^32 is another one")
	}
}

// second reads IN1 anew, with great numbers, for modules that may run.
func second(m api.Module) first {
	out := first{pages: -1, bytes: map[int]byte{}}
	for _, l := range m.Tables {
		for range l.Min {
			out.table = append(out.table, -1)
		}
	}
	for _, l := range m.Memories {
		out.pages = int(l.Min)
	}
	for _, e := range m.Elems {
		if !fits(e.Offset.N, len(e.Funcs), len(out.table)) {
			return first{trap: api.Element}
		}
		for i, f := range e.Funcs {
			out.table[int(e.Offset.N)+i] = int(f)
		}
	}
	for _, d := range m.Datas {
		if !fits(d.Offset.N, len(d.Bytes), out.pages*4096) {
			return first{trap: api.Bounds}
		}
		for i, b := range d.Bytes {
			out.bytes[int(d.Offset.N)+i] = b
		}
	}
	return out
}

// fits says whether the end of so many, from one on, is at most that of the whole.
func fits(from int64, many, whole int) bool {
	at := big.NewInt(from)
	if from < 0 {
		at.Add(at, big.NewInt(1<<32))
	}
	return at.Add(at, big.NewInt(int64(many))).Cmp(big.NewInt(int64(whole))) <= 0
}

func TestNewAgainstASecondReading(t *testing.T) {
	r := rand.New(rand.NewSource(9))
	traps := map[api.Trap]int{}
	for range 3000 {
		m := made(r)
		want := second(m)
		traps[want.trap]++
		hold(t, "made", m, want)
	}
	for _, trap := range []api.Trap{api.Well, api.Element, api.Bounds} {
		if traps[trap] < 100 {
			t.Errorf("of the trap %d there were only %d", trap, traps[trap])
		}
	}
}

// made is a module with a small table and memory, and Elems and Datas near their ends.
func made(r *rand.Rand) api.Module {
	m := api.Module{Types: []api.Type{{}}, Funcs: make([]api.Func, 1+r.Intn(4))}
	near := func(end int) api.Instr {
		if r.Intn(12) == 0 {
			return i32(-1 - int64(r.Intn(3)))
		}
		return i32(int64(max(0, end-r.Intn(6)+r.Intn(2)*r.Intn(2))))
	}
	if r.Intn(4) > 0 {
		m.Tables = []api.Limits{{Min: uint32(r.Intn(6))}}
		for range r.Intn(4) {
			e := api.Elem{Offset: near(int(m.Tables[0].Min))}
			for range r.Intn(4) {
				e.Funcs = append(e.Funcs, uint32(r.Intn(len(m.Funcs))))
			}
			m.Elems = append(m.Elems, e)
		}
	}
	if r.Intn(4) > 0 {
		m.Memories = []api.Limits{{Min: uint32(r.Intn(3))}}
		for range r.Intn(4) {
			d := api.Data{Offset: near(int(m.Memories[0].Min) * 4096), Bytes: make([]byte, r.Intn(4))}
			r.Read(d.Bytes)
			m.Datas = append(m.Datas, d)
		}
	}
	return m
}

// Every place and length at a small table's and memory's end.
func TestEveryPlaceNearTheEnd(t *testing.T) {
	for size := range 5 {
		for from := int64(-2); from <= 6; from++ {
			for many := range 7 {
				m := api.Module{
					Types:  []api.Type{{}},
					Funcs:  make([]api.Func, 1),
					Tables: []api.Limits{{Min: uint32(size)}},
					Elems:  []api.Elem{{Offset: i32(from), Funcs: make([]uint32, many)}},
				}
				hold(t, "an Elem of "+strconv.Itoa(many)+" at "+strconv.FormatInt(from, 10), m, second(m))
			}
		}
	}
	for pages := range 3 {
		for from := int64(-4); from <= 4; from++ {
			for many := range 5 {
				at := i32(int64(pages)*4096 + from)
				m := api.Module{
					Memories: []api.Limits{{Min: uint32(pages)}},
					Datas:    []api.Data{{Offset: at, Bytes: slices.Repeat([]byte{9}, many)}},
				}
				hold(t, "a Data of "+strconv.Itoa(many)+" at "+strconv.FormatInt(at.N, 10), m, second(m))
			}
		}
	}
}

// Rule 3: a state shares nothing with the module, nor with another state.
func TestAStateIsNew(t *testing.T) {
	m := bench()
	a, b, c := begun(t, m), begun(t, m), begun(t, m)
	a.Table[0], a.Globals[0] = 7, 99
	if trap, err := inst.Store(a.Mem, 0x36, 10, 0, 0); trap != api.Well || err != nil {
		t.Fatalf("Store: %d, %v", trap, err)
	}
	unchanged(t, "a state that changed", m, bench())
	if inst.Same(a, b) || !inst.Same(b, c) {
		t.Error("one state's change is another one's")
	}
	m.Elems[0].Funcs[0], m.Datas[0].Bytes[0], m.Globals[0].Init.N = 8, 8, 8
	if !inst.Same(b, c) || b.Table[0] != 0 || b.Globals[0] != 5 {
		t.Error("a module's change is its state's")
	}
	if got := all(t, b.Mem)[10]; got != 'a' {
		t.Errorf("a Data's change is the memory's: %d", got)
	}
	// Room behind what is answered is new, too.
	d := begun(t, bench())
	_ = append(d.Table[:0:cap(d.Table)], slices.Repeat([]int{3}, cap(d.Table))...)
	if !reflect.DeepEqual(begun(t, bench()).Table, b.Table) {
		t.Error("a table's room is another one's")
	}
}

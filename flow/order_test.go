package flow_test

import (
	"reflect"
	"slices"
	"testing"

	"mandrel/flow"
	"mandrel/notation"
	"mandrel/opcode"
	"mandrel/vcode"
)

// FL1: Order, Ahead, Over; and what none of the seven calls takes.

// refused is code that layer 11 does not take.
func refused() map[string]vcode.Code {
	spoilt := func(change func(c *vcode.Code)) vcode.Code {
		c := ways("1,2 2 -")
		change(&c)
		return c
	}
	many := vcode.Code{Blocks: make([]vcode.Block, 4097)}
	for i := range many.Blocks {
		many.Blocks[i] = vcode.Block{Ins: []vcode.Ins{{Op: opcode.Return, Dst: -1}}}
	}
	long := ways("-")
	long.Blocks[0].Ins = append(slices.Repeat(long.Blocks[0].Ins[:1], 16384), long.Blocks[0].Ins[1])
	return map[string]vcode.Code{
		"nothing":                   {},
		"no block":                  {Regs: 3, Params: 1},
		"a block of nothing":        {Blocks: make([]vcode.Block, 1)},
		"4,097 blocks":              many,
		"16,385 instructions":       long,
		"Params below 0":            spoilt(func(c *vcode.Code) { c.Params = -1 }),
		"Params above Regs":         spoilt(func(c *vcode.Code) { c.Params = 2 }),
		"1,025 registers":           spoilt(func(c *vcode.Code) { c.Regs = 1025 }),
		"no end":                    spoilt(func(c *vcode.Code) { c.Blocks[1].Ins = c.Blocks[1].Ins[:1] }),
		"an end too early":          spoilt(func(c *vcode.Code) { c.Blocks[1].Ins[0] = c.Blocks[1].Ins[1] }),
		"a Next behind the last":    spoilt(func(c *vcode.Code) { c.Blocks[0].Next[1] = 3 }),
		"a Next below 0":            spoilt(func(c *vcode.Code) { c.Blocks[0].Next[1] = -1 }),
		"no Next of a jump":         spoilt(func(c *vcode.Code) { c.Blocks[1].Next = nil }),
		"one Next of a branch":      spoilt(func(c *vcode.Code) { c.Blocks[0].Next = []int{2} }),
		"a Next of a return":        spoilt(func(c *vcode.Code) { c.Blocks[2].Next = []int{0} }),
		"wrong where no way leads":  func() vcode.Code { c := ways("- 1"); c.Blocks[1].Next[0] = 2; return c }(),
		"a register that isn't one": spoilt(func(c *vcode.Code) { c.Blocks[0].Ins[1].Src[0] = 1 }),
		"Depth below 0":             spoilt(func(c *vcode.Code) { c.Blocks[2].Depth = -1 }),
		"Depth above 64":            spoilt(func(c *vcode.Code) { c.Blocks[2].Depth = 65 }),
		"a value for no Result":     spoilt(func(c *vcode.Code) { c.Blocks[2].Ins[1].Src = []int{0} }),
	}
}

func TestRefused(t *testing.T) {
	for what, c := range refused() {
		before := told(c)
		order, err := flow.Order(c)
		wantRefused(t, what+": Order", order, err)
		ahead, err := flow.Ahead(c)
		wantRefused(t, what+": Ahead", ahead, err)
		over, err := flow.Over(c)
		wantRefused(t, what+": Over", over, err)
		loops, err := flow.Loops(c)
		wantRefused(t, what+": Loops", loops, err)
		for name, call := range makers {
			made, err := call(c)
			wantRefused(t, what+": "+name, made, err)
		}
		if told(c) != before {
			t.Errorf("%s: it was changed", what)
		}
	}
}

// wantRefused wants ErrArg, and nothing beside it.
func wantRefused(t *testing.T, what string, v any, err error) {
	t.Helper()
	got := reflect.ValueOf(v)
	if number(err) != 1 || !got.IsZero() && (got.Kind() != reflect.Slice || got.Len() > 0) {
		t.Errorf("%s: %v, %v, want ErrArg alone", what, v, err)
	}
}

// shapes are ways that code goes, with what FL1 says of them.
var shapes = []struct {
	name, text string
	order      []int
	ahead      [][]int
	over       []int
}{
	{"the example", "1 1,2 -", []int{0, 1, 2}, [][]int{nil, {0, 1}, {1}}, []int{-1, 0, 1}},
	{"one block", "-", []int{0}, [][]int{nil}, []int{-1}},
	{"one that leads to itself", "0", []int{0}, [][]int{{0}}, []int{-1}},
	{"a line", "1 2 3 -", []int{0, 1, 2, 3}, [][]int{nil, {0}, {1}, {2}}, []int{-1, 0, 1, 2}},
	{"a line the other way round", "3 - 1 2", []int{0, 3, 2, 1}, [][]int{nil, {2}, {3}, {0}}, []int{-1, 2, 3, 0}},
	{"a branch, and where its ways meet", "1,2 3 3 -", []int{0, 2, 1, 3}, [][]int{nil, {0}, {0}, {1, 2}}, []int{-1, 0, 0, 0}},
	{"the same, branched the other way", "2,1 3 3 -", []int{0, 1, 2, 3}, [][]int{nil, {0}, {0}, {1, 2}}, []int{-1, 0, 0, 0}},
	{"a branch both of whose ways are the same", "1,1 2 -", []int{0, 1, 2}, [][]int{nil, {0}, {1}}, []int{-1, 0, 1}},
	{"a table that tells a block again later", "2,1,2,3,1 3 3 -", []int{0, 1, 2, 3}, [][]int{nil, {0}, {0}, {0, 1, 2}}, []int{-1, 0, 0, 0}},
	{"one that is over where ways meet, and one that is not", "1 2,3 4 4 5,6 - 5", []int{0, 1, 3, 2, 4, 6, 5}, [][]int{nil, {0}, {1}, {1}, {2, 3}, {4, 6}, {4}}, []int{-1, 0, 1, 1, 1, 4, 4}},
	{"a way by which another one is cut short", "1,2 2 -", []int{0, 1, 2}, [][]int{nil, {0}, {0, 1}}, []int{-1, 0, 0}},
	{"gone into by the way that comes first", "1,2 2 1", []int{0, 1, 2}, [][]int{nil, {0, 2}, {0, 1}}, []int{-1, 0, 0}},
	{"blocks that can't be reached, between others and at the end", "2 2 4,2 4 - 4 6", []int{0, 2, 4}, [][]int{nil, nil, {0, 1, 2}, nil, {2, 3, 5}, nil, {6}}, []int{-1, -1, 0, -1, 2, -1, -1}},
	{"none but block 0 can be reached", "- 0 1,0 3", []int{0}, [][]int{{1, 2}, {2}, nil, {3}}, []int{-1, -1, -1, -1}},
	{"ways back to block 0", "1,2 0 0,2", []int{0, 2, 1}, [][]int{{1, 2}, {0}, {0, 2}}, []int{-1, 0, 0}},
	{"a circle that has two begins", "1,2 2 1,3 -", []int{0, 1, 2, 3}, [][]int{nil, {0, 2}, {0, 1}, {2}}, []int{-1, 0, 0, 2}},
	{"a detour round several", "1 2,5 3 4 5 -", []int{0, 1, 2, 3, 4, 5}, [][]int{nil, {0}, {1}, {2}, {3}, {1, 4}}, []int{-1, 0, 1, 2, 3, 1}},
}

func TestShapes(t *testing.T) {
	for _, s := range shapes {
		c := ways(s.text)
		before := told(c)
		if got := must[[]int](t, s.name)(flow.Order(c)); !slices.Equal(got, s.order) {
			t.Errorf("%s (%s): Order is %v, want %v", s.name, s.text, got, s.order)
		}
		if got := must[[][]int](t, s.name)(flow.Ahead(c)); !slices.EqualFunc(got, s.ahead, slices.Equal) {
			t.Errorf("%s (%s): Ahead is %v, want %v", s.name, s.text, got, s.ahead)
		}
		if got := must[[]int](t, s.name)(flow.Over(c)); !slices.Equal(got, s.over) {
			t.Errorf("%s (%s): Over is %v, want %v", s.name, s.text, got, s.over)
		}
		if told(c) != before {
			t.Errorf("%s: it was changed", s.name)
		}
	}
}

// TestEnds: it is Next alone that tells ways, whatever else stands in a block.
func TestEnds(t *testing.T) {
	c := notation.Virtual(`regs 2 params 1 result
		block 0 depth 7
		  table r0 -> 3
		block 1 depth 0
		  unreachable
		block 2 depth 9
		  r1 = call 0
		  return r1
		block 3 depth 0
		  r1 = const 1
		  table r1 -> 2 2 1`)
	if got := must[[]int](t, "Order")(flow.Order(c)); !slices.Equal(got, []int{0, 3, 1, 2}) {
		t.Errorf("Order is %v", got)
	}
	if got := must[[]int](t, "Over")(flow.Over(c)); !slices.Equal(got, []int{-1, 3, 3, 0}) {
		t.Errorf("Over is %v", got)
	}
}

// wantSecond1 holds FL1 and FL2 of code against the second reading.
func wantSecond1(t *testing.T, c vcode.Code) {
	t.Helper()
	if got, want := must[[]int](t, "Order")(flow.Order(c)), secondOrder(c); !slices.Equal(got, want) {
		t.Fatalf("Order is %v, want %v of\n%s", got, want, lay(c))
	}
	if got, want := must[[][]int](t, "Ahead")(flow.Ahead(c)), secondAhead(c); !slices.EqualFunc(got, want, slices.Equal) {
		t.Fatalf("Ahead is %v, want %v of\n%s", got, want, lay(c))
	}
	if got, want := must[[]int](t, "Over")(flow.Over(c)), secondOver(c); !slices.Equal(got, want) {
		t.Fatalf("Over is %v, want %v of\n%s", got, want, lay(c))
	}
	if got, want := must[[]flow.Loop](t, "Loops")(flow.Loops(c)), secondLoops(c); told(got) != told(want) {
		t.Fatalf("Loops is %v, want %v of\n%s", got, want, lay(c))
	}
}

// TestEveryWay: all ways that code of few blocks can go.
func TestEveryWay(t *testing.T) {
	for many := 1; many <= 3; many++ {
		everyCode(many, func(c vcode.Code) { wantSecond1(t, c) })
	}
}

func TestMadeWays(t *testing.T) {
	k := makerOf(14)
	for range 12_000 {
		wantSecond1(t, shaped(k))
	}
}

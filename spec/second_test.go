package spec_test

import (
	"math/rand"
	"slices"
	"strings"
	"testing"

	"mandrel/api"
	"mandrel/inst"
	"mandrel/num"
	"mandrel/ops"
	"mandrel/sample"
	"mandrel/spec"
	"mandrel/valid"
)

// second reads the chapter once more, by other means: calls and blocks stand in one another as Go's calls do, a list has a stack of its own, a trap is a panic, the memory is a plain list of bytes.
type second struct {
	m       api.Module
	bytes   []byte
	most    int // pages
	table   []int
	globals []uint64
	fuel    int
	used    int
}

// trapped is what a trap panics with.
type trapped api.Trap

// goOn and out are where a list leads to, if not to one of its labels (from 0 on).
const (
	goOn = -1
	out  = 1 << 30
)

// readAgain begins with what a module begins with.
func readAgain(t *testing.T, m api.Module) *second {
	t.Helper()
	begin, _, err := inst.New(m)
	if err != nil {
		t.Fatal(err)
	}
	s := &second{m: m, table: begin.Table, globals: begin.Globals}
	if begin.Mem != nil {
		s.bytes, s.most = bytesOf(t, begin), api.MaxPages
		if l := m.Memories[0]; l.Has {
			s.most = min(s.most, int(l.Max))
		}
	}
	return s
}

// outcome is how a call ends.
func (s *second) outcome(f int, args []uint64, fuel int) (o inst.Outcome) {
	s.fuel, s.used = fuel, 0
	defer func() {
		if p := recover(); p != nil {
			o = inst.Outcome{Trap: api.Trap(p.(trapped)), Used: s.used}
		}
	}()
	v := s.call(f, args, 1)
	return inst.Outcome{Values: v, Used: s.used}
}

func (s *second) call(f int, args []uint64, depth int) []uint64 {
	if depth > api.MaxDepth {
		panic(trapped(api.Depth))
	}
	t := s.m.Types[s.m.Funcs[f].Type]
	locals := append(slices.Clone(args), make([]uint64, len(s.m.Funcs[f].Locals))...)
	values, _ := s.list(s.m.Funcs[f].Body, locals, depth)
	return last(values, len(kinds(t.Result)))
}

func last(l []uint64, n int) []uint64 { return slices.Clone(l[len(l)-n:]) }

func kinds(k api.Kind) []api.Kind {
	if k == api.None {
		return nil
	}
	return []api.Kind{k}
}

// list is the stack of a list at its end, and where that leads to.
func (s *second) list(l []api.Instr, locals []uint64, depth int) (stack []uint64, to int) {
	pop := func() uint64 {
		v := stack[len(stack)-1]
		stack = stack[:len(stack)-1]
		return v
	}
	for _, in := range l {
		if s.used == s.fuel {
			panic(trapped(api.Fuel))
		}
		s.used++
		switch name := ops.Name(in.Op); name {
		case "unreachable":
			panic(trapped(api.Unreachable))
		case "br":
			return stack, int(in.N)
		case "br_if":
			if pop() > 0 {
				return stack, int(in.N)
			}
		case "br_table":
			v := pop()
			for i, label := range in.Labels {
				if uint64(i) == v || i == len(in.Labels)-1 {
					return stack, int(label)
				}
			}
		case "return":
			return stack, out
		case "block", "loop", "if":
			body := in.Body
			if name == "if" && pop() == 0 {
				body = in.Else
			}
			given, to := s.block(in, name, body, locals, depth)
			if stack = append(stack, given...); to != goOn {
				return stack, to
			}
		case "call", "call_indirect":
			f := int(in.N)
			if name == "call_indirect" {
				f = s.pick(in.N, pop())
			}
			n := len(stack) - len(s.m.Types[s.m.Funcs[f].Type].Params)
			stack = append(stack[:n], s.call(f, slices.Clone(stack[n:]), depth+1)...)
		default:
			stack = s.plain(in, name, locals, stack)
		}
	}
	return stack, goOn
}

// block is what a block gives, or hands on to where it leads.
func (s *second) block(in api.Instr, name string, body []api.Instr, locals []uint64, depth int) ([]uint64, int) {
	values, to := s.list(body, locals, depth)
	for name == "loop" && to == 0 {
		values, to = s.list(body, locals, depth)
	}
	if to > 0 {
		return values, to - 1
	}
	return last(values, len(kinds(in.Result))), goOn
}

func (s *second) pick(typ int64, at uint64) int {
	if at >= uint64(len(s.table)) || s.table[at] < 0 {
		panic(trapped(api.Element))
	}
	f := s.table[at]
	has, want := s.m.Types[s.m.Funcs[f].Type], s.m.Types[typ]
	if has.Result != want.Result || !slices.Equal(has.Params, want.Params) {
		panic(trapped(api.Mismatch))
	}
	return f
}

// plain is the stack behind an instruction.
func (s *second) plain(in api.Instr, name string, locals, stack []uint64) []uint64 {
	// From the top on: the uppermost is at(1).
	at := func(n int) uint64 { return stack[len(stack)-n] }
	less := func(n int, v ...uint64) []uint64 { return append(slices.Clone(stack[:len(stack)-n]), v...) }
	switch name {
	case "nop":
		return stack
	case "drop":
		return less(1)
	case "select":
		if at(1) == 0 {
			return less(3, at(2))
		}
		return less(2)
	case "local.get":
		return less(0, locals[in.N])
	case "local.set", "local.tee":
		locals[in.N] = at(1)
		return less(map[string]int{"local.set": 1, "local.tee": 0}[name])
	case "global.get":
		return less(0, s.globals[in.N])
	case "global.set":
		s.globals[in.N] = at(1)
		return less(1)
	case "memory.size":
		return less(0, uint64(len(s.bytes)/api.PageSize))
	case "memory.grow":
		had := uint64(len(s.bytes) / api.PageSize)
		if had+at(1) > uint64(s.most) {
			return less(1, 1<<32-1)
		}
		s.bytes = append(s.bytes, make([]byte, at(1)*api.PageSize)...)
		return less(1, had)
	case "i32.const":
		return less(0, uint64(in.N)%(1<<32))
	case "i64.const":
		return less(0, uint64(in.N))
	}
	if strings.Contains(name, ".load") {
		return less(1, s.load(in, at(1)))
	}
	if strings.Contains(name, ".store") {
		s.store(in, at(2), at(1))
		return less(2)
	}
	if v, err := num.One(in.Op, at(1)); err == nil {
		return less(1, v)
	}
	v, trap, _ := num.Two(in.Op, at(2), at(1))
	if trap != api.Well {
		panic(trapped(trap))
	}
	return less(2, v)
}

// place is the first of the bytes that a load or store has, and how many these are.
func (s *second) place(in api.Instr, at uint64) (int, int) {
	n, _, _ := ops.Bytes(in.Op)
	if at+uint64(in.Offset)+uint64(n) > uint64(len(s.bytes)) {
		panic(trapped(api.Bounds))
	}
	return int(at) + int(in.Offset), n
}

func (s *second) load(in api.Instr, at uint64) uint64 {
	first, n := s.place(in, at)
	v := uint64(0)
	for i := range n {
		v |= uint64(s.bytes[first+i]) << (8 * i)
	}
	name := ops.Name(in.Op)
	if strings.HasSuffix(name, "_s") && s.bytes[first+n-1] >= 128 {
		v -= 1 << (8 * n)
	}
	if strings.HasPrefix(name, "i32") {
		v %= 1 << 32
	}
	return v
}

func (s *second) store(in api.Instr, at, v uint64) {
	first, n := s.place(in, at)
	for i := range n {
		s.bytes[first+i] = byte(v >> (8 * i))
	}
}

// wantAsSecond holds a machine's state against the second reading's.
func (s *second) wantAsSecond(t *testing.T, what string, got *inst.State) {
	t.Helper()
	if !slices.Equal(got.Globals, s.globals) || !slices.Equal(got.Table, s.table) || got.Mem != nil && !slices.Equal(bytesOf(t, got), s.bytes) {
		t.Fatalf("%s: the states are not the same: globals %v, want %v", what, got.Globals, s.globals)
	}
}

// TestSecondOfTrials: the second reading says of some of the trials above what was said of them.
func TestSecondOfTrials(t *testing.T) {
	for _, c := range []trial{
		{"three arguments of both kinds", typeBigI, "i32.const 12 i64.const 34 i32.const 56 call 3", nil, give(123456), 0, 15},
		{"no end", typeII, deep, with(1<<32 - 1), nil, api.Depth, 64 * 6},
		{"br to the body", typeI, nested("br 2"), nil, give(12), 0, 8},
		{"the value 3", typeII, nested("local.get 0 br_table 0 1 2 1 ;"), with(3), give(1012), 0, 10},
		{"return", typeI, "i32.const 5 call 7 i32.add", nil, give(26), 0, 9},
	} {
		if got := readAgain(t, c.module()).outcome(0, c.args, plenty); !same(got, c.want()) {
			t.Errorf("%s: %v, want %v", c.name, got, c.want())
		}
	}
}

// TestMadeModules: calls of made modules, one after another, end as the second reading says, and leave what it leaves.
func TestMadeModules(t *testing.T) {
	k := &sample.Maker{Intn: rand.New(rand.NewSource(10)).Intn}
	var ends [api.Fuel + 1]int
	steps := 0
	for i := range 8000 {
		m := k.Module()
		if f, err := valid.Check(m); err != nil {
			t.Fatalf("module %d: %d, %v: %v", i, f, err, m.Funcs[f].Body)
		}
		x, _, err := spec.New(m)
		if err != nil {
			t.Fatal(err)
		}
		s := readAgain(t, m)
		for range 8 {
			f, fuel := k.Intn(len(m.Funcs)), sample.One(k, k.Intn(40), 300, 3000)
			args := k.Args(m, f)
			got, want := call(t, x, f, args, fuel), s.outcome(f, args, fuel)
			if !same(got, want) {
				t.Fatalf("module %d, function %d with %v and fuel %d: %v, want %v: %v", i, f, args, fuel, got, want, m.Funcs)
			}
			s.wantAsSecond(t, "a made module", x.State())
			ends[got.Trap]++
			steps += got.Used
		}
	}
	for trap, n := range ends {
		if n < 50 {
			t.Errorf("the trap %d ends only %d calls: %v", trap, n, ends)
		}
	}
	if steps < 1_000_000 {
		t.Errorf("only %d steps", steps)
	}
}

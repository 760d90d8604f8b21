package vrun_test

import (
	"math/rand"
	"slices"
	"strings"
	"testing"

	"mandrel/api"
	"mandrel/inst"
	"mandrel/num"
	"mandrel/ops"
	"mandrel/sample"
	"mandrel/shape"
	"mandrel/vcode"
)

// second reads the chapters once more, by other means: calls stand in a list, registers in maps, the memory is a plain list of bytes, instructions are told apart by their names.
type second struct {
	m       api.Module
	codes   []vcode.Code
	bytes   []byte
	most    int // pages
	table   []int
	globals []uint64
}

// frame is a call that goes on: what of it is done next, and where what it waits for goes. A register that is not there is a nought.
type frame struct {
	code  vcode.Code
	block int
	ins   int
	waits int
	regs  map[int]uint64
}

// readAgain begins with what a module begins with.
func readAgain(t *testing.T, m api.Module, l []vcode.Code) *second {
	t.Helper()
	begin, _, err := inst.New(m)
	if err != nil {
		t.Fatal(err)
	}
	s := &second{m: m, codes: l, table: begin.Table, globals: begin.Globals, most: api.MaxPages}
	s.bytes = bytesOf(t, begin)
	if limits := m.Memories[0]; limits.Has {
		s.most = min(s.most, int(limits.Max))
	}
	return s
}

func (s *second) begin(f int, args []uint64) *frame {
	out := &frame{code: s.codes[f], regs: map[int]uint64{}}
	for r, v := range args {
		out.regs[r] = v
	}
	return out
}

// outcome is how a call ends.
func (s *second) outcome(f int, args []uint64, fuel int) inst.Outcome {
	frames := []*frame{s.begin(f, args)}
	for used := 1; ; used++ {
		if used > fuel {
			return inst.Outcome{Trap: api.Fuel, Used: fuel}
		}
		top := frames[len(frames)-1]
		b := top.code.Blocks[top.block]
		in := b.Ins[top.ins]
		top.ins++
		top.waits = in.Dst
		var src []uint64
		for _, r := range in.Src {
			src = append(src, top.regs[r])
		}
		var given []uint64
		trap := api.Well
		switch name := shape.Name(in.Op); name {
		case "return":
			if len(frames) == 1 {
				return inst.Outcome{Values: src, Used: used}
			}
			frames = frames[:len(frames)-1]
			top, given = frames[len(frames)-1], src
		case "jump", "branch", "table":
			top.block, top.ins = leads(name, src, b.Next), 0
		case "call", "call_indirect":
			g := int(in.N)
			if name == "call_indirect" {
				g, trap = s.pick(in.N, src[0])
				src = src[1:]
			}
			if trap == api.Well && len(frames) == 64 {
				trap = api.Depth
			}
			if trap == api.Well {
				frames = append(frames, s.begin(g, src))
			}
		default:
			given, trap = s.plain(in, name, src)
		}
		if trap != api.Well {
			return inst.Outcome{Trap: trap, Used: used}
		}
		for _, v := range given {
			top.regs[top.waits] = v
		}
	}
}

// leads is the block behind an end.
func leads(name string, src []uint64, next []int) int {
	for i, b := range next {
		here := name == "jump" || i == len(next)-1
		here = here || name == "branch" && src[0] > 0
		here = here || name == "table" && src[0]%(1<<32) == uint64(i)
		if here {
			return b
		}
	}
	panic("an end that leads nowhere")
}

func (s *second) pick(typ int64, at uint64) (int, api.Trap) {
	at %= 1 << 32
	if at >= uint64(len(s.table)) || s.table[at] < 0 {
		return 0, api.Element
	}
	f := s.table[at]
	has, want := s.m.Types[s.m.Funcs[f].Type], s.m.Types[typ]
	if has.Result != want.Result || !slices.Equal(has.Params, want.Params) {
		return 0, api.Mismatch
	}
	return f, api.Well
}

// plain is what an instruction gives that is no end and no call, or its trap.
func (s *second) plain(in vcode.Ins, name string, src []uint64) ([]uint64, api.Trap) {
	switch name {
	case "unreachable":
		return nil, api.Unreachable
	case "const":
		return []uint64{uint64(in.N)}, 0
	case "move":
		return src, 0
	case "select":
		if src[2] == 0 {
			return src[1:2], 0
		}
		return src[:1], 0
	case "global.get":
		return []uint64{s.globals[in.N]}, 0
	case "global.set":
		s.globals[in.N] = src[0]
		return nil, 0
	case "memory.size":
		return []uint64{uint64(len(s.bytes) / api.PageSize)}, 0
	case "memory.grow":
		had, more := len(s.bytes)/api.PageSize, src[0]%(1<<32)
		if more > uint64(s.most-had) {
			return []uint64{1<<32 - 1}, 0
		}
		s.bytes = append(s.bytes, make([]byte, more*api.PageSize)...)
		return []uint64{uint64(had)}, 0
	}
	if strings.Contains(name, ".load") || strings.Contains(name, ".store") {
		return s.access(in, name, src)
	}
	if v, err := num.One(in.Op, src[0]); err == nil {
		return []uint64{v}, 0
	}
	v, trap, _ := num.Two(in.Op, src[0], src[1])
	return []uint64{v}, trap
}

// access does a load or a store, byte by byte.
func (s *second) access(in vcode.Ins, name string, src []uint64) ([]uint64, api.Trap) {
	n, _, _ := ops.Bytes(in.Op)
	first := src[0]%(1<<32) + uint64(in.Offset)
	if first+uint64(n) > uint64(len(s.bytes)) {
		return nil, api.Bounds
	}
	place := s.bytes[first:][:n]
	if strings.Contains(name, ".store") {
		for i := range place {
			place[i] = byte(src[1] >> (8 * i))
		}
		return nil, 0
	}
	v := uint64(0)
	for i, b := range place {
		v |= uint64(b) << (8 * i)
	}
	if strings.HasSuffix(name, "_s") && place[n-1] >= 128 {
		v -= 1 << (8 * n)
	}
	if strings.HasPrefix(name, "i32") {
		v %= 1 << 32
	}
	return []uint64{v}, 0
}

// wantAsSecond holds a machine's state against the second reading's.
func (s *second) wantAsSecond(t *testing.T, what string, got *inst.State) {
	t.Helper()
	if !slices.Equal(got.Globals, s.globals) || !slices.Equal(got.Table, s.table) || !slices.Equal(bytesOf(t, got), s.bytes) {
		t.Fatalf("%s: the states are not the same: globals %v, want %v", what, got.Globals, s.globals)
	}
}

// TestSecondOfTrials: the second reading says of some of the trials of other files what was said of them.
func TestSecondOfTrials(t *testing.T) {
	for _, c := range []trial{
		{"three", typeMixed, "r0 = call r0 r1 r2 3; return r0", with(12, 34, 56), give(123456), 0, 2 + stepsDigits},
		{"indirect, two", typeTwo, "r2 = const 1; r3 = call_indirect r2 r0 r1 4; return r3", with(9, 2), give(7), 0, 3 + stepsLess},
		{"64 calls", typeII, deep("r0 = const 7; return r0"), with(63), give(7), 0, 63*5 + 3},
		{"one more", typeII, deep("r0 = const 7; return r0"), with(64), nil, api.Depth, 64 * 4},
		{"a table", typeBigII, "table r0 -> 3 1 1 2 4" + lands(4), with(1<<32 + 3), give(20), 0, 3},
		{"a branch", typeBigII, "branch r0 -> 1 2" + lands(2), with(1 << 32), give(10), 0, 3},
		{"a growth by more than 32 bits", typeBigII, "r1 = memory.grow r0; r2 = memory.grow r0; r3 = memory.grow r0; r4 = memory.size; return r4", with(1<<32 + 1), give(3), 0, 5},
		{"a load", typeBigI, "r1 = const 3; r2 = i64.load16_s r1 +5; return r2", nil, give(0xffffffffffff9281), 0, 3},
	} {
		if got := readAgain(t, bench(c.typ), codes(c.typ, c.text)).outcome(0, c.args, plenty); !same(got, c.want()) {
			t.Errorf("%s: %v, want %v", c.name, got, c.want())
		}
	}
}

// TestMadeCodes: calls of made code, one after another, end as the second reading says, and leave what it leaves; nothing that was handed in is changed.
func TestMadeCodes(t *testing.T) {
	k := &sample.Maker{Intn: rand.New(rand.NewSource(13)).Intn}
	var ends [api.Fuel + 1]int
	steps := 0
	for i := range 6000 {
		m := k.Module()
		l := k.Codes(m)
		x, s := machine(t, m, l), readAgain(t, m, l)
		var kept []vcode.Code
		for _, c := range l {
			kept = append(kept, vcode.Clone(c))
		}
		for range 8 {
			f, fuel := k.Intn(len(m.Funcs)), sample.One(k, k.Intn(40), 300, 2000)
			args := k.Args(m, f)
			got, want := call(t, x, f, args, fuel), s.outcome(f, args, fuel)
			if !same(got, want) {
				t.Fatalf("module %d, function %d with %v and fuel %d: %v, want %v: %v", i, f, args, fuel, got, want, l)
			}
			s.wantAsSecond(t, "made code", x.State())
			ends[got.Trap]++
			steps += got.Used
		}
		if !slices.EqualFunc(l, kept, vcode.Same) {
			t.Fatalf("module %d: the code was changed", i)
		}
	}
	for trap, n := range ends {
		if n < 50 {
			t.Errorf("the trap %d ends only %d calls: %v", trap, n, ends)
		}
	}
	if steps < 500_000 {
		t.Errorf("only %d steps", steps)
	}
}

// TestMadeFuel is VR3 of made code: with each fuel up to more than is used.
func TestMadeFuel(t *testing.T) {
	k := &sample.Maker{Intn: rand.New(rand.NewSource(31)).Intn}
	for range 300 {
		m := k.Module()
		l := k.Codes(m)
		f := k.Intn(len(m.Funcs))
		args := k.Args(m, f)
		x := machine(t, m, l)
		want := call(t, x, f, args, 200)
		if want.Trap == api.Fuel {
			continue
		}
		for fuel := range want.Used + 3 {
			y := machine(t, m, l)
			got := call(t, y, f, args, fuel)
			if fuel < want.Used && !same(got, inst.Outcome{Trap: api.Fuel, Used: fuel}) {
				t.Fatalf("with fuel %d of %d: %v", fuel, want.Used, got)
			}
			if fuel >= want.Used && (!same(got, want) || !inst.Same(x.State(), y.State())) {
				t.Fatalf("with fuel %d of %d: %v, want %v and the same state", fuel, want.Used, got, want)
			}
		}
	}
}

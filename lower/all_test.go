package lower_test

import (
	"math/rand"
	"reflect"
	"slices"
	"testing"

	"mandrel/api"
	"mandrel/lower"
	"mandrel/notation"
	"mandrel/sample"
	"mandrel/vcode"
)

// LO1: All; and that nothing is changed, or shared.

func TestAllRefuses(t *testing.T) {
	for _, c := range []struct {
		name   string
		change func(m *api.Module)
		want   api.Errno
	}{
		{"a memory of 17 pages", func(m *api.Module) { m.Memories[0] = api.Limits{Min: 17} }, api.ErrLimit},
		{"a table of 257", func(m *api.Module) { m.Tables[0].Min = 257 }, api.ErrLimit},
		{"a wrong kind", func(m *api.Module) { m.Globals[0].Kind = 1 }, api.ErrInvalid},
		{"a type that is not there", func(m *api.Module) { m.Funcs[3].Type = 99 }, api.ErrInvalid},
		{"an Export of nothing", func(m *api.Module) { m.Exports[0].Index = 99 }, api.ErrInvalid},
		{"two memories", func(m *api.Module) { m.Memories = append(m.Memories, m.Memories[0]) }, api.ErrInvalid},
		{"a body that may not run", func(m *api.Module) { m.Funcs[5].Body = notation.Code("drop") }, api.ErrInvalid},
		{"too many registers of the first", func(m *api.Module) { m.Funcs[0].Body = tall(1023) }, api.ErrLimit},
		{"of the last", func(m *api.Module) { m.Funcs[len(m.Funcs)-1].Locals = slices.Repeat([]api.Kind{api.I32}, 2000) }, api.ErrLimit},
		{"of one that nothing calls", func(m *api.Module) { m.Funcs = append(m.Funcs, api.Func{Body: tall(1025)}) }, api.ErrLimit},
		{"too many, and a later body that may not run", func(m *api.Module) { m.Funcs[0].Body, m.Funcs[5].Body = tall(2000), notation.Code("drop") }, api.ErrInvalid},
		{"too many, and an earlier body that may not run", func(m *api.Module) { m.Funcs[5].Body, m.Funcs[0].Body = tall(2000), notation.Code("drop") }, api.ErrInvalid},
		{"too many, and a module that may not run", func(m *api.Module) { m.Funcs[0].Body, m.Memories[0].Min = tall(2000), 5 }, api.ErrInvalid},
	} {
		m := bench(sample.TypeNone, "nop")
		c.change(&m)
		if l, err := lower.All(m); number(err) != c.want || len(l) > 0 {
			t.Errorf("%s: %d codes, %v, want the error %d alone", c.name, len(l), err, c.want)
		}
	}
}

// TestAllJustInLimits: one less than what is refused above.
func TestAllJustInLimits(t *testing.T) {
	m := bench(sample.TypeNone, "nop")
	m.Funcs[0].Body = tall(1022)
	if l, err := lower.All(m); err != nil || len(l) != len(m.Funcs) || l[0].Regs != vcode.MaxRegs {
		t.Errorf("%d codes, %v", len(l), err)
	}
}

func TestAllOfNoFunction(t *testing.T) {
	for name, m := range map[string]api.Module{"nothing": {}, "all but functions": {Types: []api.Type{{}}, Memories: []api.Limits{{Min: 1}}, Globals: []api.Global{{Kind: api.I32, Init: api.Instr{Op: 0x41}}}}} {
		if l, err := lower.All(m); err != nil || len(l) != 0 {
			t.Errorf("%s: %v, %v", name, l, err)
		}
	}
}

// TestAllIsFunc: each of its codes is what Func gives.
func TestAllIsFunc(t *testing.T) {
	k := &sample.Maker{Intn: rand.New(rand.NewSource(3)).Intn}
	modules := []api.Module{bench(sample.TypeII, nested("local.get 0 br_table 0 1 2 1 ;"))}
	for range 300 {
		modules = append(modules, k.Module())
	}
	for _, m := range modules {
		l, err := lower.All(m)
		if err != nil || len(l) != len(m.Funcs) {
			t.Fatalf("%d codes, %v", len(l), err)
		}
		for f, got := range l {
			if !vcode.Same(got, codeOf(t, "Func", m, f)) {
				t.Errorf("function %d: %v", f, got)
			}
		}
	}
}

// TestNothingIsChanged: neither by an answer, nor by an error.
func TestNothingIsChanged(t *testing.T) {
	wrong := []noted{{"may not run", sample.TypeNone, "block ( drop )"}, {"may not run", sample.TypeII, "local.get 0 br_table 5 ;"}}
	for _, c := range append(allNoted(), wrong...) {
		m, want := bench(c.typ, c.text), bench(c.typ, c.text)
		first, _ := lower.Func(m, 0)
		_, _ = lower.Func(m, 99)
		_, _ = lower.All(m)
		if !reflect.DeepEqual(m, want) {
			t.Errorf("%s: the module was changed", c.name)
		}
		if again, _ := lower.Func(m, 0); !vcode.Same(first, again) {
			t.Errorf("%s: another answer, the second time", c.name)
		}
	}
	for _, n := range [][3]int{{2000, 0, 0}, {0, 2000, 0}, {0, 0, 2000}} {
		m := sized(n[0], n[1], n[2])
		_, _ = lower.Func(m, 0)
		if !reflect.DeepEqual(m, sized(n[0], n[1], n[2])) {
			t.Errorf("%v: the module was changed", n)
		}
	}
}

// TestNothingIsShared: what is written into a list of an answer, its spare room too, stands in no other list, and not in the module.
func TestNothingIsShared(t *testing.T) {
	for _, c := range allNoted() {
		m := bench(c.typ, c.text)
		l, err := lower.All(m)
		if err != nil {
			t.Fatal(err)
		}
		lists := numbers(l)
		for i, list := range lists {
			for j := range list {
				list[j] = -1000 - i
			}
		}
		for i, list := range lists {
			for _, v := range list {
				if v != -1000-i {
					t.Fatalf("%s: two lists share memory", c.name)
				}
			}
		}
		if !reflect.DeepEqual(m, bench(c.typ, c.text)) {
			t.Errorf("%s: the module shares memory with the answer", c.name)
		}
	}
}

// numbers are all lists of numbers that codes have, with their spare room. (Two lists of instructions, or of blocks, that shared memory would have the same ones twice.)
func numbers(l []vcode.Code) [][]int {
	var out [][]int
	for _, c := range l {
		for b := range c.Blocks[:cap(c.Blocks)] {
			block := &c.Blocks[:cap(c.Blocks)][b]
			out = append(out, block.Next[:cap(block.Next)])
			ins := block.Ins[:cap(block.Ins)]
			for i := range ins {
				out = append(out, ins[i].Src[:cap(ins[i].Src)])
			}
		}
	}
	return out
}

// TestModuleMayChange: code does not hang on what becomes of the module later.
func TestModuleMayChange(t *testing.T) {
	m := tableOf([]uint32{0, 1, 0})
	c := codeOf(t, "a table", m, 0)
	want := vcode.Clone(c)
	table := m.Funcs[0].Body[0].Body[0].Body
	table[0].N, table[1].Labels[0], table[1].Labels[1] = 1, 7, 8
	m.Types[sample.TypeII].Params[0] = api.None
	if !vcode.Same(c, want) {
		t.Errorf("%v, want %v", c, want)
	}
}

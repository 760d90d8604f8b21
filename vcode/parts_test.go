package vcode_test

import (
	"reflect"
	"slices"
	"strings"
	"testing"

	"mandrel/ops"
	"mandrel/vcode"
)

// VC2: Ends, Pure, Size, Same, Clone.

func TestEndsAndPureOfAll(t *testing.T) {
	ends, pure := 0, 0
	for op := range 256 {
		if got, want := vcode.Ends(byte(op)), isEnd(byte(op)); got != want {
			t.Errorf("Ends of %#x: %v, want %v", op, got, want)
		}
		if got, want := vcode.Pure(byte(op)), secondPure(byte(op)); got != want {
			t.Errorf("Pure of %#x: %v, want %v", op, got, want)
		}
		if vcode.Ends(byte(op)) {
			ends++
		}
		if vcode.Pure(byte(op)) {
			pure++
		}
	}
	// 58 beside wrap and extend have layer 2's names, and 8 of them divide.
	if ends != 5 || pure != 58+3-8+5 {
		t.Errorf("%d ends, %d pure ones", ends, pure)
	}
}

func secondPure(op byte) bool {
	switch op {
	case 0x42, 0xc0, 0x1b, 0x3f, 0x23:
		return true
	}
	name := ops.Name(op)
	return op >= 0x45 && name != "" && !strings.Contains(name, ".div") && !strings.Contains(name, ".rem")
}

func TestSize(t *testing.T) {
	for want, c := range map[int]vcode.Code{
		0:     {},
		20:    benchCode(),
		1:     rings(1),
		4097:  rings(4097),
		16385: long(16385),
	} {
		before := told(c)
		if got := vcode.Size(c); got != want {
			t.Errorf("Size is %d, want %d", got, want)
		}
		if told(c) != before {
			t.Errorf("code of %d instructions was changed", want)
		}
	}
	if got := vcode.Size(vcode.Code{Regs: 7, Blocks: make([]vcode.Block, 5)}); got != 0 {
		t.Errorf("blocks of nothing: %d", got)
	}
}

// wantSame asks both ways round.
func wantSame(t *testing.T, what string, a, b vcode.Code, want bool) {
	t.Helper()
	if vcode.Same(a, b) != want || vcode.Same(b, a) != want {
		t.Errorf("%s: %v and %v, want %v", what, vcode.Same(a, b), vcode.Same(b, a), want)
	}
}

func TestSame(t *testing.T) {
	wantSame(t, "bench", benchCode(), benchCode(), true)
	wantSame(t, "nothing", vcode.Code{}, vcode.Code{}, true)
	wantSame(t, "nothing and bench", vcode.Code{}, benchCode(), false)
	wantSame(t, "nil and empty blocks", vcode.Code{}, vcode.Code{Blocks: []vcode.Block{}}, true)
	wantSame(t, "nil and empty lists", vcode.Code{Blocks: make([]vcode.Block, 1)}, vcode.Code{Blocks: []vcode.Block{{Ins: []vcode.Ins{}, Next: []int{}}}}, true)
	wantSame(t, "nil and empty Src", long(1), vcode.Code{Regs: 1, Blocks: []vcode.Block{{Ins: []vcode.Ins{{Op: opReturn, Dst: -1, Src: []int{}}}}}}, true)
	wantSame(t, "no block and one of nothing", vcode.Code{}, vcode.Code{Blocks: make([]vcode.Block, 1)}, false)
}

// TestSameOfOneOther: any number or bool of bench another one, any list of it one shorter, or longer.
func TestSameOfOneOther(t *testing.T) {
	first, other := benchCode(), benchCode()
	before := told(first)
	seen := 0
	leaves(reflect.ValueOf(&other).Elem(), "bench", func(way string, leaf reflect.Value) {
		kept := reflect.New(leaf.Type()).Elem()
		kept.Set(leaf)
		alter(leaf)
		wantSame(t, way, first, other, false)
		leaf.Set(kept)
		wantSame(t, way+" put back", first, other, true)
		seen++
	})
	if seen < 100 {
		t.Errorf("only %d parts were looked at", seen)
	}
	lists(reflect.ValueOf(&other).Elem(), "bench", func(way string, list reflect.Value) {
		kept := reflect.New(list.Type()).Elem()
		kept.Set(list)
		list.Set(reflect.Append(list.Slice3(0, list.Len(), list.Len()), reflect.Zero(list.Type().Elem())))
		wantSame(t, way+" one longer", first, other, false)
		list.Set(kept)
		if list.Len() > 0 {
			list.Set(list.Slice(0, list.Len()-1))
			wantSame(t, way+" one shorter", first, other, false)
			list.Set(kept)
			list.Set(list.Slice(1, list.Len()))
			wantSame(t, way+" without the first", first, other, false)
			list.Set(kept)
		}
	})
	if told(first) != before {
		t.Errorf("Same changed code")
	}
}

func TestCloneIsTheSame(t *testing.T) {
	spoilt := vcode.Code{Params: -3, Regs: 5000, Blocks: []vcode.Block{{}, {Depth: -1, Next: []int{-7}, Ins: []vcode.Ins{{Op: 0xff, Dst: 99, Src: []int{-9}, N: 3, Offset: 4}}}}}
	for _, c := range []vcode.Code{{}, benchCode(), rings(3), spoilt, {Blocks: []vcode.Block{{Ins: []vcode.Ins{}, Next: []int{}}}}} {
		before := told(c)
		if d := vcode.Clone(c); !vcode.Same(c, d) {
			t.Errorf("Clone of %v is %v", c, d)
		}
		if told(c) != before {
			t.Errorf("Clone changed %v", c)
		}
	}
}

// TestCloneIsApart: what is written into one is not in the other, nor what is laid behind any of its lists.
func TestCloneIsApart(t *testing.T) {
	first := roomy(benchCode())
	clone := vcode.Clone(first)
	want := map[*vcode.Code]string{&first: told(first), &clone: told(clone)}
	for _, pair := range [][2]*vcode.Code{{&first, &clone}, {&clone, &first}} {
		leaves(reflect.ValueOf(pair[0]).Elem(), "bench", func(way string, leaf reflect.Value) {
			kept := reflect.New(leaf.Type()).Elem()
			kept.Set(leaf)
			alter(leaf)
			if told(*pair[1]) != want[pair[1]] {
				t.Errorf("%s is in both", way)
			}
			leaf.Set(kept)
		})
		lists(reflect.ValueOf(pair[0]).Elem(), "bench", func(way string, list reflect.Value) {
			room := list.Slice(0, list.Cap())
			for i := list.Len(); i < list.Cap(); i++ {
				leaves(room.Index(i), way, func(_ string, leaf reflect.Value) { alter(leaf) })
			}
			if told(first) != want[&first] || told(clone) != want[&clone] {
				t.Errorf("behind %s stands something else", way)
			}
		})
	}
	if !rightAlone(first, clone) {
		t.Errorf("spare room is in both")
	}
}

// roomy gives each list of code spare room, all lists of one kind out of one piece of memory.
func roomy(c vcode.Code) vcode.Code {
	numbers := make([]int, 0, 1000)
	lay := func(l []int) []int {
		numbers = append(numbers, l...)
		return numbers[len(numbers)-len(l):]
	}
	for i := range c.Blocks {
		b := &c.Blocks[i]
		for j := range b.Ins {
			b.Ins[j].Src = lay(b.Ins[j].Src)
		}
		b.Next = lay(b.Next)
		b.Ins = slices.Grow(b.Ins, 5)
	}
	// Here nothing may be written behind a list: another one stands there.
	for i := range c.Blocks {
		b := &c.Blocks[i]
		b.Next = slices.Clip(b.Next)
		for j := range b.Ins {
			b.Ins[j].Src = slices.Clip(b.Ins[j].Src)
		}
	}
	c.Blocks = slices.Grow(c.Blocks, 5)
	return c
}

// rightAlone tells whether no list of two codes begins where one of the other does.
func rightAlone(a, b vcode.Code) bool {
	seen := map[any]bool{}
	lists(reflect.ValueOf(a), "", func(_ string, list reflect.Value) {
		if list.Cap() > 0 {
			seen[list.Pointer()] = true
		}
	})
	alone := true
	lists(reflect.ValueOf(b), "", func(_ string, list reflect.Value) {
		alone = alone && (list.Cap() == 0 || !seen[list.Pointer()])
	})
	return alone
}

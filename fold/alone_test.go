package fold_test

import (
	"cmp"
	"maps"
	"reflect"
	"slices"
	"testing"

	"mandrel/fold"
	"mandrel/notation"
	"mandrel/vcode"
)

// Rules 1 to 4 of all layers: nothing that was handed in is changed, nor what was answered; nothing of it shares memory.

// piece is memory of a list, with its spare room.
type piece struct{ begin, end uintptr }

// pieces are those of all lists within a value, and of those within their spare room.
func pieces(v reflect.Value) []piece {
	var out []piece
	switch v.Kind() {
	case reflect.Struct:
		for i := range v.NumField() {
			out = append(out, pieces(v.Field(i))...)
		}
	case reflect.Slice:
		if v.Cap() == 0 {
			return nil
		}
		out = append(out, piece{v.Pointer(), v.Pointer() + uintptr(v.Cap())*v.Type().Elem().Size()})
		all := v.Slice(0, v.Cap())
		for i := range all.Len() {
			out = append(out, pieces(all.Index(i))...)
		}
	}
	return out
}

// apart tells whether no two pieces have something in common.
func apart(l []piece) bool {
	slices.SortFunc(l, func(a, b piece) int { return cmp.Compare(a.begin, b.begin) })
	for i := 1; i < len(l); i++ {
		if l[i].begin < l[i-1].end {
			return false
		}
	}
	return true
}

// roomy gives each list of code spare room.
func roomy(c vcode.Code) vcode.Code {
	c = vcode.Clone(c)
	c.Blocks = slices.Grow(c.Blocks, 3)
	for i := range c.Blocks {
		b := &c.Blocks[i]
		b.Ins = slices.Grow(b.Ins, 20)
		b.Next = slices.Grow(b.Next, 5)
		for j := range b.Ins {
			b.Ins[j].Src = slices.Grow(b.Ins[j].Src, 4)
		}
	}
	return c
}

// toldRoom is all of code, with what stands in its spare room.
func toldRoom(c vcode.Code) string {
	l := []any{c.Blocks[:cap(c.Blocks)]}
	for _, b := range c.Blocks {
		l = append(l, b.Ins[:cap(b.Ins)], b.Next[:cap(b.Next)])
		for _, in := range b.Ins {
			l = append(l, in.Src[:cap(in.Src)])
		}
	}
	return told(l...)
}

// spoil changes every number in code, and lays something in the spare room of its lists.
func spoil(c vcode.Code) {
	blocks := c.Blocks[:cap(c.Blocks)]
	for i := range blocks {
		b := &blocks[i]
		spoilInts(b.Next)
		b.Depth = 99
		ins := b.Ins[:cap(b.Ins)]
		for j := range ins {
			spoilInts(ins[j].Src)
			ins[j].Op, ins[j].Dst, ins[j].N, ins[j].Offset = 99, 99, 99, 99
		}
	}
}

func spoilInts(l []int) {
	l = l[:cap(l)]
	for i := range l {
		l[i] = 99
	}
}

func TestAlone(t *testing.T) {
	k := makerOf(3)
	codes := []vcode.Code{notation.Virtual("regs 4 params 1; block 0 depth 1; r2 = const 1; r1 = i32.add r2 r2; jump -> 2; block 1 depth 0; jump -> 1; block 2 depth 3; r3 = select r0 r1 r2; branch r1 -> 3 4; block 3 depth 0; r2 = move r0; call r2 r2 1; jump -> 4; block 4 depth 0; return")}
	for range 400 {
		codes = append(codes, shaped(k, k.Intn(3), k.Intn(2) == 0))
	}
	for i, c := range codes {
		c = roomy(c)
		before := toldRoom(c)
		known := must[[]map[int]uint64](t, "Known")(fold.Known(c))
		made := must[vcode.Code](t, "Fold")(fold.Fold(c))
		if !apart(append(pieces(reflect.ValueOf(made)), pieces(reflect.ValueOf(c))...)) {
			t.Errorf("code %d: what is made shares memory: %v", i, made)
		}
		was := told(known, made)

		other := codes[(i+1)%len(codes)]
		must[[]map[int]uint64](t, "Known")(fold.Known(other))
		must[vcode.Code](t, "Fold")(fold.Fold(other))
		knownAgain := must[[]map[int]uint64](t, "Known")(fold.Known(c))
		again := must[vcode.Code](t, "Fold")(fold.Fold(c))
		if told(known, made) != was || told(knownAgain, again) != was {
			t.Errorf("code %d: a later call changed or answered something else: %v %v, was %s", i, known, made, was)
		}

		spoil(again)
		for _, m := range knownAgain {
			m[i] = 99
			m[-1] = 98
		}
		if told(known, made) != was || toldRoom(c) != before {
			t.Errorf("code %d was changed, or an answer, when another one was", i)
		}
		spoil(c)
		if told(known, made) != was {
			t.Errorf("code %d: an answer was changed by what was handed in", i)
		}
	}
}

// TestMapsAlone: what is written into what is known of a block, or taken out, is not in what is known of another one.
func TestMapsAlone(t *testing.T) {
	k := makerOf(4)
	for range 400 {
		c := shaped(k, k.Intn(3), false)
		got := must[[]map[int]uint64](t, "Known")(fold.Known(c))
		want := slices.Clone(got)
		for b := range want {
			if want[b] == nil {
				t.Fatalf("of block %d there is no map to be asked and written into: %v", b, lay(c))
			}
			want[b] = maps.Clone(want[b])
		}
		for b := range got {
			was := maps.Clone(got[b])
			clear(got[b])
			got[b][b] = 77
			for other := range got {
				if other != b && !maps.Equal(got[other], want[other]) {
					t.Fatalf("what is known of block %d is changed with block %d's: %v", other, b, lay(c))
				}
			}
			clear(got[b])
			maps.Copy(got[b], was)
		}
	}
}

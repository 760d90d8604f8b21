package live_test

import (
	"cmp"
	"math"
	"reflect"
	"slices"
	"testing"

	"mandrel/live"
	"mandrel/notation"
	"mandrel/vcode"
)

// Rules 1 to 4 of all layers: nothing that was handed in is changed, nor what was answered; no two lists share memory.

// piece is memory of a list, with its spare room.
type piece struct{ begin, end uintptr }

// pieces are those of all lists within a value, and of those within their spare room.
func pieces(v reflect.Value) []piece {
	var out []piece
	switch v.Kind() {
	case reflect.Struct:
		for i := range v.NumField() {
			out = append(out, pieces(v.Field(i))...)
		}
	case reflect.Slice:
		if v.Cap() == 0 {
			return nil
		}
		out = append(out, piece{v.Pointer(), v.Pointer() + uintptr(v.Cap())*v.Type().Elem().Size()})
		all := v.Slice(0, v.Cap())
		for i := range all.Len() {
			out = append(out, pieces(all.Index(i))...)
		}
	}
	return out
}

// apart tells whether no two pieces of values have something in common.
func apart(values ...any) bool {
	var l []piece
	for _, v := range values {
		l = append(l, pieces(reflect.ValueOf(v))...)
	}
	slices.SortFunc(l, func(a, b piece) int { return cmp.Compare(a.begin, b.begin) })
	for i := 1; i < len(l); i++ {
		if l[i].begin < l[i-1].end {
			return false
		}
	}
	return true
}

// roomy gives each list of code spare room.
func roomy(c vcode.Code) vcode.Code {
	c = vcode.Clone(c)
	c.Blocks = slices.Grow(c.Blocks, 3)
	for i := range c.Blocks {
		b := &c.Blocks[i]
		b.Ins = slices.Grow(b.Ins, 20)
		b.Next = slices.Grow(b.Next, 5)
		for j := range b.Ins {
			b.Ins[j].Src = slices.Grow(b.Ins[j].Src, 4)
		}
	}
	return c
}

// toldRoom is all of code, with what stands in its spare room.
func toldRoom(c vcode.Code) string {
	l := []any{c.Params, c.Regs, c.Result, c.Blocks[:cap(c.Blocks)]}
	for _, b := range c.Blocks {
		l = append(l, b.Ins[:cap(b.Ins)], b.Next[:cap(b.Next)])
		for _, in := range b.Ins {
			l = append(l, in.Src[:cap(in.Src)])
		}
	}
	return told(l...)
}

// spoil changes every number in code, and lays something in the spare room of its lists.
func spoil(c vcode.Code) {
	blocks := c.Blocks[:cap(c.Blocks)]
	for i := range blocks {
		b := &blocks[i]
		spoilInts(b.Next)
		b.Depth = 99
		l := b.Ins[:cap(b.Ins)]
		for j := range l {
			spoilInts(l[j].Src)
			l[j].Op, l[j].Dst, l[j].N, l[j].Offset = 99, 99, 99, 99
		}
	}
}

func spoilInts(l []int) {
	l = l[:cap(l)]
	for i := range l {
		l[i] = 99
	}
}

// answers are what all three calls answer of code.
type answers struct {
	in     []live.Set
	behind [][]live.Set
	most   int
}

func answersOf(t *testing.T, c vcode.Code) answers {
	t.Helper()
	a := answers{in: must[[]live.Set](t, "In")(live.In(c)), most: must[int](t, "Most")(live.Most(c))}
	for b := range c.Blocks {
		a.behind = append(a.behind, must[[]live.Set](t, "Behind")(live.Behind(c, b)))
	}
	return a
}

// spoil changes every set in answers, and their spare room.
func (a answers) spoil() {
	for _, l := range append(slices.Clone(a.behind), a.in) {
		l = l[:cap(l)]
		for i := range l {
			s := l[i][:cap(l[i])]
			for j := range s {
				s[j] = math.MaxUint64
			}
			l[i] = nil
		}
	}
}

func TestAlone(t *testing.T) {
	k := makerOf(166)
	codes := []vcode.Code{
		notation.Virtual("regs 4 params 1; block 0 depth 1; r2 = const 1; r1 = i32.add r2 r2; jump -> 2; block 1 depth 0; jump -> 1; block 2 depth 3; r3 = select r0 r1 r2; branch r1 -> 3 4; block 3 depth 0; r2 = move r0; call r2 r2 1; jump -> 4; block 4 depth 0; return"),
		notation.Virtual("regs 0 params 0; block 0 depth 0; jump -> 0"),
	}
	codes = append(codes, spread(k, 100, 6)...)
	codes = append(codes, spread(k, 50, 300)...)
	for i, c := range codes {
		c = roomy(c)
		before := toldRoom(c)
		got := answersOf(t, c)
		if !apart(c, got.in, got.behind) {
			t.Errorf("code %d: what is answered shares memory: %v", i, got)
		}
		was := told(got)

		answersOf(t, codes[(i+1)%len(codes)])
		again := answersOf(t, c)
		if told(got) != was || told(again) != was {
			t.Errorf("code %d: a later call changed or answered something else: %v %v, was %s", i, got, again, was)
		}
		if !apart(c, got.in, got.behind, again.in, again.behind) {
			t.Errorf("code %d: what is answered twice shares memory: %v %v", i, got, again)
		}

		again.spoil()
		if told(got) != was || toldRoom(c) != before {
			t.Errorf("code %d was changed, or an answer, when another one was", i)
		}
		spoil(c)
		if told(got) != was {
			t.Errorf("code %d: an answer was changed by what was handed in", i)
		}
	}
}

// TestListAlone: a set and its list share nothing, nor do two lists.
func TestListAlone(t *testing.T) {
	s := live.Set{5, 9, 0}[:2]
	one, two := s.List(), s.List()
	if !apart([]uint64(s), one, two) {
		t.Error("lists share memory")
	}
	spoilInts(one)
	if !slices.Equal(two, []int{0, 2, 64, 67}) || told(s[:3]) != told(live.Set{5, 9, 0}) {
		t.Errorf("%v, %v", two, s[:3])
	}
	s[0] = 0
	if !slices.Equal(two, []int{0, 2, 64, 67}) {
		t.Errorf("%v", two)
	}
}

package flow_test

import (
	"cmp"
	"reflect"
	"slices"
	"testing"

	"mandrel/flow"
	"mandrel/vcode"
)

// Rules 1 to 4 of all layers: nothing that was handed in is changed, nor what was answered; no two lists share memory.

// piece is memory of a list, with its spare room.
type piece struct{ begin, end uintptr }

// pieces are those of all lists within a value, and of those within their spare room.
func pieces(v reflect.Value) []piece {
	var out []piece
	switch v.Kind() {
	case reflect.Struct:
		for i := range v.NumField() {
			out = append(out, pieces(v.Field(i))...)
		}
	case reflect.Slice:
		if v.Cap() == 0 {
			return nil
		}
		out = append(out, piece{v.Pointer(), v.Pointer() + uintptr(v.Cap())*v.Type().Elem().Size()})
		all := v.Slice(0, v.Cap())
		for i := range all.Len() {
			out = append(out, pieces(all.Index(i))...)
		}
	}
	return out
}

// apart tells whether no two pieces have something in common.
func apart(l []piece) bool {
	slices.SortFunc(l, func(a, b piece) int { return cmp.Compare(a.begin, b.begin) })
	for i := 1; i < len(l); i++ {
		if l[i].begin < l[i-1].end {
			return false
		}
	}
	return true
}

// answers are those of all seven calls.
func answers(t *testing.T, c vcode.Code) []any {
	t.Helper()
	out := []any{
		must[[]int](t, "Order")(flow.Order(c)),
		must[[][]int](t, "Ahead")(flow.Ahead(c)),
		must[[]int](t, "Over")(flow.Over(c)),
		must[[]flow.Loop](t, "Loops")(flow.Loops(c)),
	}
	for _, maker := range []string{"Trim", "Thread", "Join"} {
		out = append(out, must[vcode.Code](t, maker)(makers[maker](c)))
	}
	return out
}

// roomy gives each list of code spare room.
func roomy(c vcode.Code) vcode.Code {
	c = vcode.Clone(c)
	c.Blocks = slices.Grow(c.Blocks, 3)
	for i := range c.Blocks {
		b := &c.Blocks[i]
		b.Ins = slices.Grow(b.Ins, 20)
		b.Next = slices.Grow(b.Next, 5)
		for j := range b.Ins {
			b.Ins[j].Src = slices.Grow(b.Ins[j].Src, 4)
		}
	}
	return c
}

// toldRoom is all of code, with what stands in its spare room.
func toldRoom(c vcode.Code) string {
	l := []any{c.Blocks[:cap(c.Blocks)]}
	for _, b := range c.Blocks {
		l = append(l, b.Ins[:cap(b.Ins)], b.Next[:cap(b.Next)])
		for _, in := range b.Ins {
			l = append(l, in.Src[:cap(in.Src)])
		}
	}
	return told(l...)
}

// spoil changes every number in lists of a value, and lays something in their spare room.
func spoil(v reflect.Value) {
	switch v.Kind() {
	case reflect.Struct:
		for i := range v.NumField() {
			spoil(v.Field(i))
		}
	case reflect.Slice:
		all := v.Slice(0, v.Cap())
		for i := range all.Len() {
			spoil(all.Index(i))
		}
	case reflect.Bool:
		v.SetBool(!v.Bool())
	default:
		if v.CanInt() {
			v.SetInt(99)
		} else {
			v.SetUint(99)
		}
	}
}

// spoilt hands over something that can be set.
func spoilt(v any) {
	p := reflect.New(reflect.TypeOf(v))
	p.Elem().Set(reflect.ValueOf(v))
	spoil(p.Elem())
}

func TestAlone(t *testing.T) {
	k := makerOf(3)
	codes := []vcode.Code{lines("block 0 depth 1; r1 = i32.add r0 r0; jump -> 2; block 1 depth 0; jump -> 1; block 2 depth 3; r1 = select r0 r1 r2; branch r1 -> 3 4; block 3 depth 0; jump -> 4; block 4 depth 0; r2 = move r1; return")}
	for range 400 {
		codes = append(codes, shaped(k))
	}
	for i, c := range codes {
		c = roomy(c)
		before := toldRoom(c)
		got := answers(t, c)
		for _, v := range got {
			both := append(pieces(reflect.ValueOf(v)), pieces(reflect.ValueOf(c))...)
			if !apart(both) {
				t.Errorf("code %d: %T shares memory: %v", i, v, v)
			}
		}
		was := told(got...)
		answers(t, codes[(i+1)%len(codes)])
		again := answers(t, c)
		if told(got...) != was || told(again...) != was {
			t.Errorf("code %d: a later call changed or answered something else: %v, was %s", i, got, was)
		}
		for _, v := range again {
			spoilt(v)
		}
		if told(got...) != was || toldRoom(c) != before {
			t.Errorf("code %d was changed, or an answer, when another one was", i)
		}
		spoilt(c)
		if told(got...) != was {
			t.Errorf("code %d: an answer was changed by what was handed in", i)
		}
	}
}

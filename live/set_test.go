package live_test

import (
	"math"
	"slices"
	"testing"

	"mandrel/live"
	"mandrel/notation"
)

// LI2: Has and List.

// nowhere are numbers that no set has.
var nowhere = []int{-1, -2, -63, -64, -65, -128, -1024, math.MinInt, math.MinInt + 1, math.MinInt + 64, 1024, 1088, 1 << 20, 1<<31 - 1, 1 << 32, 1 << 38, 1<<62 + 1, math.MaxInt - 63, math.MaxInt}

func TestSets(t *testing.T) {
	for _, c := range []struct {
		name string
		set  live.Set
		want []int
	}{
		{"nil", nil, nil},
		{"of no numbers", live.Set{}, nil},
		{"of none", live.Set{0}, nil},
		{"of none, with more room", live.Set{0, 0, 0}, nil},
		{"the first", live.Set{1}, []int{0}},
		{"the last of a number", live.Set{1 << 63}, []int{63}},
		{"about the border of two", live.Set{1 << 63, 1}, []int{63, 64}},
		{"about that of the next two", live.Set{0, 1 << 63, 1}, []int{127, 128}},
		{"some", live.Set{1<<1 | 1<<5 | 1<<31 | 1<<32, 0, 1<<9 | 1<<40}, []int{1, 5, 31, 32, 137, 168}},
		{"the last one that there is", append(make(live.Set, 15), 1<<63), []int{1023}},
		{"room behind it", append(live.Set{2}, make(live.Set, 15)...), []int{1}},
	} {
		before := told(c.set)
		if got := c.set.List(); !slices.Equal(got, c.want) {
			t.Errorf("%s: List is %v, want %v", c.name, got, c.want)
		}
		for r := -70; r < 1200; r++ {
			if got, want := c.set.Has(r), slices.Contains(c.want, r); got != want {
				t.Errorf("%s: Has(%d) is %v", c.name, r, got)
			}
		}
		for _, r := range nowhere {
			if c.set.Has(r) {
				t.Errorf("%s: Has(%d)", c.name, r)
			}
		}
		if told(c.set) != before {
			t.Errorf("%s: it was changed", c.name)
		}
	}
}

// TestFullSets: sets of all registers of so many numbers.
func TestFullSets(t *testing.T) {
	for n := range 17 {
		l := slices.Repeat(live.Set{math.MaxUint64}, n).List()
		if len(l) != 64*n {
			t.Fatalf("%d in a set of %d", len(l), 64*n)
		}
		for i, r := range l {
			if r != i {
				t.Fatalf("%d comes as the %dth", r, i)
			}
		}
	}
}

// TestBeyondRoom: what stands in a set's spare room is not in it.
func TestBeyondRoom(t *testing.T) {
	s := live.Set{3, 5, 9}[:1]
	if s.Has(64) || s.Has(66) || s.Has(128) || !slices.Equal(s.List(), []int{0, 1}) {
		t.Errorf("%v is in it", s.List())
	}
}

// TestAnsweredSets: Has and List tell the same of sets that were answered.
func TestAnsweredSets(t *testing.T) {
	k := makerOf(161)
	codes := append(spread(k, 40, 1024), spread(k, 40, 200)...)
	codes = append(codes, notation.Virtual("regs 0 params 0; block 0 depth 0; jump -> 0"))
	some := 0
	for _, c := range codes {
		sets := must[[]live.Set](t, "In")(live.In(c))
		for b := range c.Blocks {
			sets = append(sets, must[[]live.Set](t, "Behind")(live.Behind(c, b))...)
		}
		for _, s := range sets {
			l := s.List()
			some += len(l)
			if !slices.IsSorted(l) || len(slices.Compact(slices.Clone(l))) != len(l) {
				t.Fatalf("List is %v", l)
			}
			for r := -1; r < 1100; r++ {
				if s.Has(r) != slices.Contains(l, r) {
					t.Fatalf("Has(%d) is %v, List %v", r, s.Has(r), l)
				}
			}
			for _, r := range nowhere {
				if s.Has(r) {
					t.Fatalf("Has(%d), of a set of code of %d registers", r, c.Regs)
				}
			}
		}
	}
	if some < 1000 {
		t.Errorf("only %d registers were in sets", some)
	}
}

package flow_test

import (
	"testing"

	"mandrel/flow"
)

// FL2.

func TestLoops(t *testing.T) {
	type loops []flow.Loop
	for _, c := range []struct {
		name, text string
		want       loops
	}{
		{"the example", "1 1,2 -", loops{{1, []int{1}}}},
		{"none", "1,2 3 3 -", nil},
		{"none, though a later number leads to an earlier one", "2 3 1 -", nil},
		{"block 0 alone", "0", loops{{0, []int{0}}}},
		{"block 0 alone, by a branch to itself twice", "0,0", loops{{0, []int{0}}}},
		{"the head is block 0", "1 2 0,3 -", loops{{0, []int{0, 1, 2}}}},
		{"two blocks", "1 2,3 1 -", loops{{1, []int{1, 2}}}},
		{"the head has a greater number than the others", "3 3 - 1,2", loops{{3, []int{1, 3}}}},
		{"of one block, within another", "1 2 2,3 1,4 -", loops{{1, []int{1, 2, 3}}, {2, []int{2}}}},
		{"one within another within another", "1 2 3 3,4 2,5 1,6 -", loops{{1, []int{1, 2, 3, 4, 5}}, {2, []int{2, 3, 4}}, {3, []int{3}}}},
		{"two within one", "1,5 2,3 2,4 3,4 0 -", loops{{0, []int{0, 1, 2, 3, 4}}, {2, []int{2}}, {3, []int{3}}}},
		{"one behind another", "0,1 1,2 -", loops{{0, []int{0}}, {1, []int{1}}}},
		{"one head, several ways back", "1 2,3,4 1 1 1,5 -", loops{{1, []int{1, 2, 3, 4}}}},
		{"one head, several ways back, one of them its own", "1 1,2,3 1 -", loops{{1, []int{1, 2}}}},
		{"ways that part and meet within", "1 2,3 4 4 1,5 -", loops{{1, []int{1, 2, 3, 4}}}},
		{"what leaves it is none of its blocks", "1 2,3 1,4 - -", loops{{1, []int{1, 2}}}},
		{"a circle that has two begins", "1,2 2 1", nil},
		{"a circle that has two begins, within a loop", "1 2,3 3 2,4 1,5 -", loops{{1, []int{1, 2, 3, 4}}}},
		{"a circle that has two begins, one of whose blocks leads to itself", "1,2 2 1,2", loops{{2, []int{2}}}},
		{"a loop within such a circle", "1,2 2 3,1 2", loops{{2, []int{2, 3}}}},
		{"a loop that no way leads to", "- 2 1", nil},
		{"one that leads to itself, to which no way leads", "- 1", nil},
		{"from blocks that can't be reached there is a way, too", "1 2,3 1 - 2 4 1 3", loops{{1, []int{1, 2, 4, 5}}}},
		{"heads by their numbers, not as they are come to", "3 1,4 2,1 3,2 -", loops{{1, []int{1}}, {2, []int{2}}, {3, []int{3}}}},
	} {
		code := ways(c.text)
		before := told(code)
		if got := must[[]flow.Loop](t, c.name)(flow.Loops(code)); told(loops(got)) != told(c.want) {
			t.Errorf("%s (%s): %v, want %v", c.name, c.text, got, c.want)
		}
		if told(code) != before {
			t.Errorf("%s: it was changed", c.name)
		}
	}
}

package flow_test

import (
	"errors"
	"fmt"
	"strconv"
	"strings"
	"testing"

	"mandrel/api"
	"mandrel/flow"
	"mandrel/notation"
	"mandrel/opcode"
	"mandrel/vcode"
)

// told is all of a value, as a text: it shares nothing with it.
func told(v ...any) string { return fmt.Sprintf("%#v", v) }

// number is that of an error; 0 of none, -1 of one that has no number.
func number(err error) api.Errno {
	if err == nil {
		return 0
	}
	var n api.Errno
	if !errors.As(err, &n) {
		return -1
	}
	return n
}

// must takes what a call answered that may answer no error.
func must[T any](t *testing.T, what string) func(v T, err error) T {
	return func(v T, err error) T {
		t.Helper()
		if err != nil {
			t.Fatalf("%s: %v", what, err)
		}
		return v
	}
}

// ways is code whose blocks lead where they are noted to: a word is a block's Next, with commas between; none is noted by a dash. Each block has its number ahead of its end.
func ways(text string) vcode.Code {
	c := vcode.Code{Regs: 1}
	for i, word := range strings.Fields(text) {
		var next []int
		if word != "-" {
			for _, n := range strings.Split(word, ",") {
				b, err := strconv.Atoi(n)
				if err != nil {
					panic(text)
				}
				next = append(next, b)
			}
		}
		c.Blocks = append(c.Blocks, leading(i, next))
	}
	return c
}

// leading is a block that leads to others, with a number.
func leading(n int, next []int) vcode.Block {
	last := vcode.Ins{Op: opcode.Return, Dst: -1}
	switch {
	case len(next) == 1:
		last.Op = vcode.Jump
	case len(next) == 2:
		last.Op, last.Src = vcode.Branch, []int{0}
	case len(next) > 2:
		last.Op, last.Src = vcode.Table, []int{0}
	}
	return vcode.Block{Ins: []vcode.Ins{{Op: opcode.Const64, N: int64(n)}, last}, Next: next}
}

// lines is code of three registers without a value, of the lines of its blocks.
func lines(text string) vcode.Code { return notation.Virtual("regs 3 params 1; " + text) }

// makers are the calls that make code of code.
var makers = map[string]func(vcode.Code) (vcode.Code, error){"Trim": flow.Trim, "Thread": flow.Thread, "Join": flow.Join}

// wantMade holds what one of these makes against what is wanted, and what was handed in against what it was.
func wantMade(t *testing.T, maker string, c, want vcode.Code) {
	t.Helper()
	before := told(c)
	got := must[vcode.Code](t, maker)(makers[maker](c))
	if !vcode.Same(got, want) {
		t.Errorf("%s of\n%swant\n%s", maker, lay(c)+"is\n"+lay(got), lay(want))
	}
	if err := vcode.Check(got); err != nil {
		t.Errorf("%s of\n%s%v: %v", maker, lay(c), got, err)
	}
	if told(c) != before {
		t.Errorf("%s changed what was handed in: it was %s", maker, before)
	}
}

// lay is code as lines, or as Go tells it, if it may not be.
func lay(c vcode.Code) string {
	s, err := vcode.Text(c)
	if err != nil {
		return told(c)
	}
	return s
}

package live_test

import (
	"errors"
	"fmt"
	"math/rand"
	"slices"
	"strconv"
	"strings"
	"testing"

	"mandrel/api"
	"mandrel/live"
	"mandrel/sample"
	"mandrel/vcode"
)

// told is all of a value, as a text: it shares nothing with it.
func told(v ...any) string { return fmt.Sprintf("%#v", v) }

// number is that of an error; 0 of none, -1 of one that has no number.
func number(err error) api.Errno {
	if err == nil {
		return 0
	}
	var n api.Errno
	if !errors.As(err, &n) {
		return -1
	}
	return n
}

// must takes what a call answered that may answer no error.
func must[T any](t *testing.T, what string) func(v T, err error) T {
	return func(v T, err error) T {
		t.Helper()
		if err != nil {
			t.Fatalf("%s: %v", what, err)
		}
		return v
	}
}

// lay is code as lines, or as Go tells it, if it may not be.
func lay(c vcode.Code) string {
	s, err := vcode.Text(c)
	if err != nil {
		return told(c)
	}
	return s
}

// makerOf makes by numbers of a fixed row.
func makerOf(seed int64) *sample.Maker {
	return &sample.Maker{Intn: rand.New(rand.NewSource(seed)).Intn}
}

// noted are sets, each in a note such as "0 2", or "-" of none, with a comma between two.
func noted(text string) [][]int {
	var out [][]int
	for _, s := range strings.Split(text, ",") {
		var l []int
		for _, w := range strings.Fields(s) {
			if w == "-" {
				continue
			}
			r, err := strconv.Atoi(w)
			if err != nil {
				panic(err)
			}
			l = append(l, r)
		}
		out = append(out, l)
	}
	return out
}

// lists are the registers in sets.
func lists(l []live.Set) [][]int {
	var out [][]int
	for _, s := range l {
		out = append(out, s.List())
	}
	return out
}

// wantSets holds sets against the registers that are wanted in each.
func wantSets(t *testing.T, what string, got []live.Set, want [][]int) {
	t.Helper()
	if l := lists(got); !slices.EqualFunc(l, want, slices.Equal) {
		t.Errorf("%s: %v, want %v", what, l, want)
	}
}

// ins is an instruction that gives to a register, or to none, if that is -1.
func ins(op byte, dst int, src ...int) vcode.Ins { return vcode.Ins{Op: op, Dst: dst, Src: src} }

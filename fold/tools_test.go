package fold_test

import (
	"errors"
	"fmt"
	"maps"
	"math/rand"
	"strings"
	"testing"

	"mandrel/api"
	"mandrel/fold"
	"mandrel/notation"
	"mandrel/sample"
	"mandrel/vcode"
)

// told is all of a value, as a text: it shares nothing with it. (Maps are told by their keys' order.)
func told(v ...any) string { return fmt.Sprintf("%#v", v) }

// number is that of an error; 0 of none, -1 of one that has no number.
func number(err error) api.Errno {
	if err == nil {
		return 0
	}
	var n api.Errno
	if !errors.As(err, &n) {
		return -1
	}
	return n
}

// must takes what a call answered that may answer no error.
func must[T any](t *testing.T, what string) func(v T, err error) T {
	return func(v T, err error) T {
		t.Helper()
		if err != nil {
			t.Fatalf("%s: %v", what, err)
		}
		return v
	}
}

// lay is code as lines, or as Go tells it, if it may not be.
func lay(c vcode.Code) string {
	s, err := vcode.Text(c)
	if err != nil {
		return told(c)
	}
	return s
}

// makerOf makes by numbers of a fixed row.
func makerOf(seed int64) *sample.Maker {
	return &sample.Maker{Intn: rand.New(rand.NewSource(seed)).Intn}
}

// noted is what is known at a place, of a note such as "r1 5 r2 0".
func noted(text string) map[int]uint64 {
	out := map[int]uint64{}
	words := strings.Fields(text)
	for i := 0; i < len(words); i += 2 {
		var r int
		var v uint64
		if n, err := fmt.Sscanf(words[i]+" "+words[i+1], "r%d %d", &r, &v); n != 2 {
			panic(err)
		}
		out[r] = v
	}
	return out
}

// wantKnown holds what is known against what is wanted, block by block, and what was handed in against what it was.
func wantKnown(t *testing.T, what string, c vcode.Code, want []map[int]uint64) {
	t.Helper()
	before := told(c)
	got := must[[]map[int]uint64](t, what)(fold.Known(c))
	if len(got) != len(c.Blocks) || len(got) != len(want) {
		t.Fatalf("%s: %d blocks, %d are wanted: %v", what, len(got), len(want), lay(c))
	}
	for b := range got {
		if !maps.Equal(got[b], want[b]) {
			t.Errorf("%s: at block %d %v is known, want %v:\n%s", what, b, got[b], want[b], lay(c))
		}
	}
	if told(c) != before {
		t.Errorf("%s: what was handed in was changed", what)
	}
}

// wantFold holds what Fold makes against what is wanted, and what was handed in against what it was.
func wantFold(t *testing.T, what string, c, want vcode.Code) {
	t.Helper()
	before := told(c)
	got := must[vcode.Code](t, what)(fold.Fold(c))
	if !vcode.Same(got, want) {
		t.Errorf("%s:\n%swant\n%s", what, lay(c)+"is\n"+lay(got), lay(want))
	}
	if err := vcode.Check(got); err != nil {
		t.Errorf("%s: %v: %v", what, err, got)
	}
	if told(c) != before {
		t.Errorf("%s: what was handed in was changed", what)
	}
}

// holdKnown holds codes, as notes, each with a note for each of its blocks.
func holdKnown(t *testing.T, l [][]string) {
	t.Helper()
	for _, c := range l {
		var want []map[int]uint64
		for _, text := range c[2:] {
			want = append(want, noted(text))
		}
		wantKnown(t, c[0], notation.Virtual(c[1]), want)
	}
}

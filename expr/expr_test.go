package expr

import (
	"bytes"
	"encoding/hex"
	"errors"
	"math"
	"reflect"
	"slices"
	"strings"
	"testing"

	"mandrel/api"
	"mandrel/leb"
	"mandrel/ops"
)

// telling is instructions, and their bytes: hexadecimal, with a blank between any two parts.
type telling struct {
	l     []api.Instr
	parts string
}

func one(in api.Instr) []api.Instr { return []api.Instr{in} }

// nops are n of them.
func nops(n int) []api.Instr { return slices.Repeat(one(api.Instr{Op: 1}), n) }

// labels are n of them, each another one.
func labels(n int) []uint32 {
	var out []uint32
	for i := range n {
		out = append(out, uint32(i))
	}
	return out
}

// nested is n blocks, one in another, of the three instructions that are ones by turns.
func nested(n int) []api.Instr {
	var l []api.Instr
	for i := range n {
		in := api.Instr{Op: byte(2 + i%3), Body: l}
		if i%6 == 5 {
			in.Body, in.Else = nil, l
		}
		l = one(in)
	}
	return l
}

// join is the bytes of parts, and the place of each part's first byte.
func join(t *testing.T, parts string) (b []byte, places []int) {
	t.Helper()
	for _, part := range strings.Fields(parts) {
		p, err := hex.DecodeString(part)
		if err != nil {
			t.Fatal(err)
		}
		places = append(places, len(b))
		b = append(b, p...)
	}
	return b, places
}

func tellings() []telling {
	return slices.Concat(numberTellings(), otherTellings(), blockTellings())
}

func numberTellings() []telling {
	return []telling{
		{one(api.Instr{Op: 0x41}), "41 00 0b"},
		{one(api.Instr{Op: 0x41, N: 624485}), "41 e58e26 0b"},
		{one(api.Instr{Op: 0x41, N: -1}), "41 7f 0b"},
		{one(api.Instr{Op: 0x41, N: 64}), "41 c000 0b"},
		{one(api.Instr{Op: 0x41, N: math.MaxInt32}), "41 ffffffff07 0b"},
		{one(api.Instr{Op: 0x41, N: math.MinInt32}), "41 8080808078 0b"},
		{one(api.Instr{Op: 0x42, N: -123456}), "42 c0bb78 0b"},
		{one(api.Instr{Op: 0x42, N: 1 << 31}), "42 8080808008 0b"},
		{one(api.Instr{Op: 0x42, N: math.MaxInt64}), "42 ffffffffffffffffff00 0b"},
		{one(api.Instr{Op: 0x42, N: math.MinInt64}), "42 8080808080808080807f 0b"},
		{one(api.Instr{Op: 0x0c}), "0c 00 0b"},
		{one(api.Instr{Op: 0x0d, N: 127}), "0d 7f 0b"},
		{one(api.Instr{Op: 0x10, N: 128}), "10 8001 0b"},
		{one(api.Instr{Op: 0x20, N: math.MaxUint32}), "20 ffffffff0f 0b"},
		{one(api.Instr{Op: 0x24, N: 1 << 31}), "24 8080808008 0b"},
		{one(api.Instr{Op: 0x28}), "28 00 00 0b"},
		{one(api.Instr{Op: 0x36, Align: 2, Offset: 300}), "36 02 ac02 0b"},
		{one(api.Instr{Op: 0x3e, Align: math.MaxUint32, Offset: math.MaxUint32}), "3e ffffffff0f ffffffff0f 0b"},
		{one(api.Instr{Op: 0x11}), "11 00 00 0b"},
		{one(api.Instr{Op: 0x11, N: math.MaxUint32}), "11 ffffffff0f 00 0b"},
		{one(api.Instr{Op: 0x0e, Labels: []uint32{0}}), "0e 00 00 0b"},
		{one(api.Instr{Op: 0x0e, Labels: []uint32{7, 128, math.MaxUint32}}), "0e 02 07 8001 ffffffff0f 0b"},
	}
}

func otherTellings() []telling {
	return []telling{
		{nil, "0b"},
		{one(api.Instr{Op: 0x00}), "00 0b"},
		{one(api.Instr{Op: 0x6a}), "6a 0b"},
		{one(api.Instr{Op: 0xad}), "ad 0b"},
		{one(api.Instr{Op: 0x3f}), "3f 00 0b"},
		{one(api.Instr{Op: 0x40}), "40 00 0b"},
		{[]api.Instr{{Op: 0x41, N: 5}, {Op: 0x1a}}, "41 05 1a 0b"},
		{[]api.Instr{{Op: 0x20}, {Op: 0x20, N: 1}, {Op: 0x37, Align: 3, Offset: 8}, {Op: 0x0f}}, "20 00 20 01 37 03 08 0f 0b"},
	}
}

func blockTellings() []telling {
	nop, drop, empty := api.Instr{Op: 1}, api.Instr{Op: 0x1a}, api.Instr{Op: 4}
	return []telling{
		{one(api.Instr{Op: 2}), "02 40 0b 0b"},
		{one(api.Instr{Op: 2, Result: api.I32, Body: one(api.Instr{Op: 0x41, N: 1})}), "02 7f 41 01 0b 0b"},
		{one(api.Instr{Op: 3, Result: api.I64, Body: []api.Instr{nop, nop}}), "03 7e 01 01 0b 0b"},
		{one(empty), "04 40 0b 0b"},
		{one(api.Instr{Op: 4, Result: api.I64, Body: one(nop)}), "04 7e 01 0b 0b"},
		{one(api.Instr{Op: 4, Result: api.I32, Body: one(nop), Else: one(drop)}), "04 7f 01 05 1a 0b 0b"},
		{one(api.Instr{Op: 4, Else: []api.Instr{nop, drop}}), "04 40 05 01 1a 0b 0b"},
		{[]api.Instr{{Op: 4, Body: one(api.Instr{Op: 4, Body: one(nop), Else: one(drop)})}, drop}, "04 40 04 40 01 05 1a 0b 0b 1a 0b"},
		{[]api.Instr{{Op: 4, Else: one(api.Instr{Op: 4, Else: one(empty)})}, nop}, "04 40 05 04 40 05 04 40 0b 0b 0b 01 0b"},
		{[]api.Instr{{Op: 2, Body: []api.Instr{{Op: 3, Body: one(api.Instr{Op: 0x0c, N: 1})}, nop}}, drop}, "02 40 03 40 0c 01 0b 01 0b 1a 0b"},
	}
}

// wantErr holds an error against the number that the document names.
func wantErr(t *testing.T, what string, err error, want api.Errno) {
	t.Helper()
	var got api.Errno
	if !errors.As(err, &got) || got != want {
		t.Errorf("%s: error %v, want %d", what, err, int(want))
	}
}

// wantWrong asks for an error at a place, with no instructions beside it.
func wantWrong(t *testing.T, b []byte, at int, want api.Errno) {
	t.Helper()
	shown := b[:min(len(b), 40)]
	was := bytes.Clone(b)
	l, n, err := Decode(b)
	var got api.Errno
	if !errors.As(err, &got) || got != want || n != at || len(l) != 0 {
		t.Errorf("Decode(%x): %d instructions, %d, %v, want error %d at %d", shown, len(l), n, err, int(want), at)
	}
	if !bytes.Equal(b, was) {
		t.Errorf("Decode(%x) changed it", shown)
	}
}

// wantWrongParts is the same, of parts, the last of which is the wrong one.
func wantWrongParts(t *testing.T, parts string, want api.Errno) {
	t.Helper()
	b, places := join(t, parts)
	wantWrong(t, b, places[len(places)-1], want)
	// What stands behind the wrong part doesn't matter, unless it could be the rest of it.
	if want != api.ErrEnd {
		wantWrong(t, append(b, 0x43, 0xff, 0x0b), places[len(places)-1], want)
	}
}

// wantDecoded asks for instructions, of all bytes, whatever stands behind them.
func wantDecoded(t *testing.T, b []byte, want []api.Instr) {
	t.Helper()
	shown := b[:min(len(b), 40)]
	for _, tail := range []string{"", "\x00", "\x0b", "\x05", "\x43", "\x80\x80", "\xff\xff\xff\xff\xff\xff"} {
		in := append(bytes.Clone(b), tail...)
		was := bytes.Clone(in)
		l, n, err := Decode(in)
		if !equal(l, want) || n != len(b) || err != nil {
			t.Errorf("Decode(%x) with %x behind it: %v, %d, %v, want %v, %d", shown, tail, l, n, err, want, len(b))
		}
		if !bytes.Equal(in, was) {
			t.Errorf("Decode(%x) changed it", shown)
		}
	}
}

// tidy is a copy in which all empty lists are nil.
func tidy(l []api.Instr) []api.Instr {
	var out []api.Instr
	for _, in := range l {
		in.Body, in.Else = tidy(in.Body), tidy(in.Else)
		in.Labels = append([]uint32(nil), in.Labels...)
		out = append(out, in)
	}
	return out
}

// equal is Same, by another way.
func equal(a, b []api.Instr) bool { return reflect.DeepEqual(tidy(a), tidy(b)) }

// wantMay asks that instructions may be.
func wantMay(t *testing.T, what string, l []api.Instr) {
	t.Helper()
	was := tidy(l)
	if err := Check(l); err != nil {
		t.Errorf("Check of %s: %v", what, err)
	}
	b, err := Encode(l)
	if err != nil || len(b) == 0 {
		t.Errorf("Encode of %s: %d bytes, %v", what, len(b), err)
	}
	if !equal(l, was) {
		t.Errorf("%s is changed", what)
	}
}

// wantMayNot asks that they may not, alone and within each list that an instruction can have.
func wantMayNot(t *testing.T, what string, l []api.Instr) {
	t.Helper()
	for _, l := range [][]api.Instr{
		l,
		slices.Concat(nops(1), l),
		slices.Concat(l, nops(1)),
		one(api.Instr{Op: 2, Body: l}),
		one(api.Instr{Op: 3, Body: l}),
		one(api.Instr{Op: 4, Body: l}),
		one(api.Instr{Op: 4, Else: l}),
		one(api.Instr{Op: 4, Body: nops(1), Else: slices.Concat(nops(2), l)}),
	} {
		was := tidy(l)
		wantErr(t, "Check of "+what, Check(l), api.ErrArg)
		b, err := Encode(l)
		wantErr(t, "Encode of "+what, err, api.ErrArg)
		if len(b) != 0 {
			t.Errorf("Encode of %s: %x beside an error", what, b)
		}
		if !equal(l, was) {
			t.Errorf("%s is changed", what)
		}
	}
}

// EX1.

func TestEncodeEveryForm(t *testing.T) {
	for _, c := range tellings() {
		want, _ := join(t, c.parts)
		wantMay(t, c.parts, c.l)
		if got, err := Encode(c.l); !bytes.Equal(got, want) || err != nil {
			t.Errorf("Encode(%v): %x, %v, want %x", c.l, got, err, want)
		}
	}
}

// TestEncodeEmptyLists: an empty list is the same as none.
func TestEncodeEmptyLists(t *testing.T) {
	no, none := []api.Instr{}, []uint32{}
	l := []api.Instr{
		{Op: 1, Body: no, Else: no, Labels: none},
		{Op: 2, Body: no, Else: no, Labels: none},
		{Op: 4, Body: no, Else: no, Labels: none},
	}
	wantMay(t, "empty lists", l)
	want, _ := join(t, "01 02 40 0b 04 40 0b 0b")
	if got, err := Encode(l); !bytes.Equal(got, want) || err != nil {
		t.Errorf("Encode: %x, %v, want %x", got, err, want)
	}
	if !Same(l, tidy(l)) || Count(l) != 3 {
		t.Errorf("empty lists are not as none: count %d", Count(l))
	}
	if got, err := Encode(no); !bytes.Equal(got, []byte{0x0b}) || err != nil || Check(nil) != nil {
		t.Errorf("Encode of no instructions: %x, %v", got, err)
	}
}

func TestEncodeAnswersNewMemory(t *testing.T) {
	l := []api.Instr{{Op: 0x0e, Labels: labels(3)}, {Op: 2, Body: nops(2)}}
	first, _ := Encode(l)
	want := bytes.Clone(first)
	room := first[:cap(first)]
	for i := range room {
		room[i] = 0xaa
	}
	if again, err := Encode(l); !bytes.Equal(again, want) || err != nil {
		t.Errorf("Encode anew: %x, %v, want %x", again, err, want)
	}
}

// fieldsOf are the fields that an instruction may have other than zero, by its form.
func fieldsOf(form int) []string {
	return map[int][]string{
		ops.Const32: {"N"}, ops.Const64: {"N"}, ops.Index: {"N"}, ops.Call: {"N"},
		ops.Address: {"Align", "Offset"},
		ops.Block:   {"Result", "Body"},
		ops.If:      {"Result", "Body", "Else"},
		ops.Table:   {"Labels"},
	}[form]
}

// TestCheckEveryField: of all 256 numbers, with each one field set, just those that have it by their form may be.
func TestCheckEveryField(t *testing.T) {
	set := map[string]api.Instr{
		"nothing": {},
		"N":       {N: 1},
		"Align":   {Align: 1},
		"Offset":  {Offset: 1},
		"Result":  {Result: api.I32},
		"Body":    {Body: nops(1)},
		"Else":    {Else: nops(1)},
		"Labels":  {Labels: labels(1)},
	}
	for op := range 256 {
		form, err := ops.Form(byte(op))
		for field, in := range set {
			in.Op = byte(op)
			if form == ops.Table {
				in.Labels = labels(1)
			}
			what := strings.Join([]string{field, "of", hex.EncodeToString([]byte{in.Op})}, " ")
			if err == nil && (field == "nothing" || slices.Contains(fieldsOf(form), field)) {
				wantMay(t, what, one(in))
			} else {
				wantMayNot(t, what, one(in))
			}
		}
	}
}

func TestCheckNumbers(t *testing.T) {
	for _, op := range []byte{0x0c, 0x0d, 0x10, 0x11, 0x20, 0x21, 0x22, 0x23, 0x24} {
		for _, n := range []int64{0, 1, 1 << 31, math.MaxUint32} {
			wantMay(t, "an index", one(api.Instr{Op: op, N: n}))
		}
		for _, n := range []int64{-1, 1 << 32, math.MinInt32, math.MinInt64, math.MaxInt64} {
			wantMayNot(t, "an index out of its bounds", one(api.Instr{Op: op, N: n}))
		}
	}
	for _, n := range []int64{0, -1, math.MinInt32, math.MaxInt32} {
		wantMay(t, "a const", one(api.Instr{Op: 0x41, N: n}))
	}
	for _, n := range []int64{math.MinInt32 - 1, math.MaxInt32 + 1, math.MaxUint32, 1 << 32, math.MinInt64, math.MaxInt64} {
		wantMayNot(t, "a const out of its bounds", one(api.Instr{Op: 0x41, N: n}))
		wantMay(t, "a const of I64", one(api.Instr{Op: 0x42, N: n}))
	}
	wantMay(t, "the greatest labels", one(api.Instr{Op: 0x0e, Labels: []uint32{math.MaxUint32, math.MaxUint32}}))
	wantMay(t, "the greatest address", one(api.Instr{Op: 0x28, Align: math.MaxUint32, Offset: math.MaxUint32}))
}

func TestCheckKinds(t *testing.T) {
	for _, op := range []byte{2, 3, 4} {
		for k := range 256 {
			in := one(api.Instr{Op: op, Result: api.Kind(k)})
			if k == int(api.None) || k == int(api.I32) || k == int(api.I64) {
				wantMay(t, "a kind", in)
			} else {
				wantMayNot(t, "a kind that is none", in)
			}
		}
	}
}

func TestCheckLabels(t *testing.T) {
	wantMayNot(t, "no labels", one(api.Instr{Op: 0x0e}))
	wantMayNot(t, "an empty list of labels", one(api.Instr{Op: 0x0e, Labels: []uint32{}}))
	for _, n := range []int{1, 2, MaxLabels, MaxLabels + 1} {
		wantMay(t, "labels", one(api.Instr{Op: 0x0e, Labels: labels(n)}))
	}
	wantMayNot(t, "one label too many", one(api.Instr{Op: 0x0e, Labels: labels(MaxLabels + 2)}))
	wantMayNot(t, "far too many labels", one(api.Instr{Op: 0x0e, Labels: labels(1 << 16)}))
}

// bodies are lists with just n instructions, those within others counted, in different ways.
func bodies(n int) map[string][]api.Instr {
	half := (n - 1) / 2
	three := []api.Instr{{Op: 2}, {Op: 3}, {Op: 4, Body: nops(1), Else: nops(1)}}
	return map[string][]api.Instr{
		"side by side":       nops(n),
		"in a block":         one(api.Instr{Op: 2, Body: nops(n - 1)}),
		"in a loop":          one(api.Instr{Op: 3, Body: nops(n - 1)}),
		"in an if":           one(api.Instr{Op: 4, Body: nops(n - 1)}),
		"in an else":         one(api.Instr{Op: 4, Else: nops(n - 1)}),
		"in an if's both":    one(api.Instr{Op: 4, Body: nops(half), Else: nops(n - 1 - half)}),
		"ahead of a block":   append(nops(n-1), api.Instr{Op: 2}),
		"within and without": slices.Concat(nested(api.MaxNest), nops(n-api.MaxNest)),
		"blocks":             slices.Concat(slices.Repeat(three, n/5), nops(n%5)),
	}
}

func TestCheckMaxBody(t *testing.T) {
	for what, l := range bodies(api.MaxBody) {
		if n := Count(l); n != api.MaxBody {
			t.Fatalf("%s: %d instructions", what, n)
		}
		wantMay(t, "MaxBody instructions "+what, l)
	}
	for what, l := range bodies(api.MaxBody + 1) {
		wantErr(t, "Check of one more than MaxBody "+what, Check(l), api.ErrArg)
		b, err := Encode(l)
		wantErr(t, "Encode of one more than MaxBody "+what, err, api.ErrArg)
		if len(b) != 0 {
			t.Errorf("Encode of one more than MaxBody %s: bytes beside an error", what)
		}
	}
}

func TestCheckMaxNest(t *testing.T) {
	wantMay(t, "MaxNest blocks", nested(api.MaxNest))
	wantMay(t, "MaxNest blocks, and one in them that is none", deepest(api.MaxNest, nops(3)))
	wantMay(t, "MaxNest blocks, twice", slices.Concat(nested(api.MaxNest), nested(api.MaxNest)))
	for _, op := range []byte{2, 3, 4} {
		wantMay(t, "MaxNest blocks", deepest(api.MaxNest-1, one(api.Instr{Op: op})))
		wantMayNot(t, "a block more than MaxNest", deepest(api.MaxNest, one(api.Instr{Op: op})))
	}
	wantMayNot(t, "a block more than MaxNest", nested(api.MaxNest+1))
	wantMayNot(t, "far more blocks than MaxNest", nested(1<<12))
}

// deepest is l, within n blocks.
func deepest(n int, l []api.Instr) []api.Instr {
	for range n {
		l = one(api.Instr{Op: 2, Body: l})
	}
	return l
}

// TestCheckEndsSoon: lists that share memory are many more instructions than their memory tells.
func TestCheckEndsSoon(t *testing.T) {
	l := nops(2)
	for range api.MaxNest - 1 {
		l = []api.Instr{{Op: 2, Body: l}, {Op: 4, Body: l, Else: l}}
	}
	wantErr(t, "Check of lists within lists", Check(l), api.ErrArg)
}

func TestCount(t *testing.T) {
	for _, c := range []struct {
		l    []api.Instr
		want int
	}{
		{nil, 0},
		{[]api.Instr{}, 0},
		{nops(1), 1},
		{one(api.Instr{Op: 2}), 1},
		{one(api.Instr{Op: 2, Body: nops(3)}), 4},
		{one(api.Instr{Op: 4, Body: nops(3), Else: nops(5)}), 9},
		{[]api.Instr{{Op: 4, Body: one(api.Instr{Op: 4, Else: nops(2)}), Else: one(api.Instr{Op: 3, Body: nops(1)})}, {Op: 1}}, 7},
		{one(api.Instr{Op: 0x0e, Labels: labels(9)}), 1},
		{nested(api.MaxNest), api.MaxNest},
		{nested(1 << 12), 1 << 12},
		{nops(api.MaxBody + 1), api.MaxBody + 1},
		{one(api.Instr{Op: 0x43, N: 7}), 1},
	} {
		was := tidy(c.l)
		if got := Count(c.l); got != c.want {
			t.Errorf("Count: %d, want %d", got, c.want)
		}
		if !equal(c.l, was) {
			t.Errorf("Count changed what was handed in")
		}
	}
}

// TestSameFieldByField: each one field that differs makes instructions others, wherever it stands.
func TestSameFieldByField(t *testing.T) {
	full := api.Instr{Op: 4, N: 1, Align: 2, Offset: 3, Result: api.I32, Body: nops(2), Else: nops(3), Labels: labels(2)}
	ways := []func(in *api.Instr){
		func(in *api.Instr) { in.Op = 3 },
		func(in *api.Instr) { in.N = -1 },
		func(in *api.Instr) { in.N = 1 + 1<<32 },
		func(in *api.Instr) { in.Align = 3 },
		func(in *api.Instr) { in.Offset = 2 },
		func(in *api.Instr) { in.Result = api.I64 },
		func(in *api.Instr) { in.Body = nil },
		func(in *api.Instr) { in.Body = nops(3) },
		func(in *api.Instr) { in.Body = []api.Instr{{Op: 1}, {Op: 0}} },
		func(in *api.Instr) { in.Else = nops(2) },
		func(in *api.Instr) { in.Else = []api.Instr{{Op: 1}, {Op: 1, N: 1}, {Op: 1}} },
		func(in *api.Instr) { in.Labels = nil },
		func(in *api.Instr) { in.Labels = labels(1) },
		func(in *api.Instr) { in.Labels = []uint32{0, 2} },
		func(in *api.Instr) { in.Labels = []uint32{1, 0} },
	}
	for i, change := range ways {
		other := full
		change(&other)
		for _, wrap := range []func(in api.Instr) []api.Instr{
			one,
			func(in api.Instr) []api.Instr { return []api.Instr{{Op: 1}, in, {Op: 1}} },
			func(in api.Instr) []api.Instr { return one(api.Instr{Op: 2, Body: one(in)}) },
			func(in api.Instr) []api.Instr { return one(api.Instr{Op: 4, Else: one(in)}) },
		} {
			a, b := wrap(full), wrap(other)
			wasA, wasB := tidy(a), tidy(b)
			if Same(a, b) || Same(b, a) {
				t.Errorf("way %d: %v is the same as %v", i, a, b)
			}
			if !Same(a, wasA) || !Same(wasB, b) {
				t.Errorf("way %d: not the same as itself", i)
			}
			if !equal(a, wasA) || !equal(b, wasB) {
				t.Errorf("way %d: what was handed in is changed", i)
			}
		}
	}
}

func TestSameLists(t *testing.T) {
	if !Same(nil, nil) || !Same(nil, []api.Instr{}) || !Same([]api.Instr{}, nil) {
		t.Errorf("no instructions are not the same as none")
	}
	if Same(nil, nops(1)) || Same(nops(1), nil) || Same(nops(2), nops(3)) || Same(nops(3), nops(2)) {
		t.Errorf("lists of other lengths are the same")
	}
	if Same([]api.Instr{{Op: 0}, {Op: 1}}, []api.Instr{{Op: 1}, {Op: 0}}) {
		t.Errorf("the order does not matter")
	}
	if Same(one(api.Instr{Op: 4, Body: nops(1)}), one(api.Instr{Op: 4, Else: nops(1)})) {
		t.Errorf("Body is as Else")
	}
	all := tellings()
	for i, a := range all {
		for j, b := range all {
			if Same(a.l, b.l) != (i == j) {
				t.Errorf("Same of %s and %s: %v", a.parts, b.parts, i != j)
			}
		}
	}
	if deep := nested(1 << 12); !Same(deep, tidy(deep)) || Same(deep, nested(1<<12-1)) {
		t.Errorf("Same of blocks within blocks")
	}
}

// EX2.

func TestDecodeEveryForm(t *testing.T) {
	for _, c := range tellings() {
		b, _ := join(t, c.parts)
		wantDecoded(t, b, c.l)
	}
}

// TestDecodeEveryPlain: all numbers of instructions with nothing behind them.
func TestDecodeEveryPlain(t *testing.T) {
	for op := range 256 {
		if form, err := ops.Form(byte(op)); err == nil && form == ops.Plain {
			wantDecoded(t, []byte{byte(op), 0x0b}, one(api.Instr{Op: byte(op)}))
		}
	}
}

// TestDecodeCutOff: behind each byte; what is told is where the part begins that is not there whole.
func TestDecodeCutOff(t *testing.T) {
	for _, c := range tellings() {
		b, places := join(t, c.parts)
		part := 0
		for cut := range len(b) {
			if part+1 < len(places) && places[part+1] == cut {
				part++
			}
			wantWrong(t, b[:cut:cut], places[part], api.ErrEnd)
		}
	}
}

// TestDecodeMoreBytesThanNeeded: numbers may be told in as many bytes as their bits allow.
func TestDecodeMoreBytesThanNeeded(t *testing.T) {
	for _, c := range []telling{
		{one(api.Instr{Op: 0x41, N: 5}), "41 8500 0b"},
		{one(api.Instr{Op: 0x41, N: -1}), "41 ffffffff7f 0b"},
		{one(api.Instr{Op: 0x41}), "41 8080808000 0b"},
		{one(api.Instr{Op: 0x42, N: -2}), "42 feffffffffffffffff7f 0b"},
		{one(api.Instr{Op: 0x42, N: 5}), "42 85808080808080808000 0b"},
		{one(api.Instr{Op: 0x20, N: 1}), "20 8180808000 0b"},
		{one(api.Instr{Op: 0x28, Align: 2, Offset: 4}), "28 8200 8480808000 0b"},
		{one(api.Instr{Op: 0x0e, Labels: []uint32{3, 4}}), "0e 8180808000 8300 848000 0b"},
		{one(api.Instr{Op: 0x11, N: 3}), "11 838000 00 0b"},
	} {
		b, _ := join(t, c.parts)
		wantDecoded(t, b, c.l)
		short, err := Encode(c.l)
		if err != nil || len(short) >= len(b) {
			t.Errorf("Encode(%v): %x, %v", c.l, short, err)
		}
	}
	// An else without instructions is as none.
	b, _ := join(t, "04 7f 01 05 0b 0b")
	wantDecoded(t, b, one(api.Instr{Op: 4, Result: api.I32, Body: nops(1)}))
}

func TestDecodeWrongOps(t *testing.T) {
	for op := range 256 {
		if _, err := ops.Form(byte(op)); err == nil || op == endByte {
			continue
		}
		want := api.ErrMalformed
		if ops.Float(byte(op)) {
			want = api.ErrUnsupported
		}
		at := hex.EncodeToString([]byte{byte(op)})
		for _, ahead := range []string{"", "41 05 ", "02 40 ", "03 7f 01 ", "04 40 05 ", "04 40 0b ", "0e 01 00 00 "} {
			wantWrongParts(t, ahead+at, want)
		}
		if op != elseByte {
			wantWrongParts(t, "04 40 "+at, want)
		}
	}
	wantWrongParts(t, "43", api.ErrUnsupported)
}

func TestDecodeElse(t *testing.T) {
	for _, parts := range []string{
		"05",
		"01 05",
		"02 40 05",
		"03 40 01 05",
		"04 40 05 05",
		"04 40 01 05 01 05",
		"04 40 02 40 05",
		"04 40 05 03 40 05",
		"04 40 05 04 40 05 0b 05",
		"04 40 0b 05",
		"04 40 05 0b 05",
		"02 40 04 40 05 0b 05",
	} {
		wantWrongParts(t, parts, api.ErrMalformed)
	}
	b, _ := join(t, "04 40 04 40 05 0b 05 0b 0b")
	wantDecoded(t, b, one(api.Instr{Op: 4, Body: one(api.Instr{Op: 4})}))
}

func TestDecodeWrongNumbers(t *testing.T) {
	for _, parts := range []string{
		"41 8080808080", "41 ffffffffff", "41 8080808008", "41 ffffffff77", "41 8080808010",
		"42 80808080808080808080", "42 80808080808080808001", "42 8080808080808080807e",
		"0c 8080808080", "0c 8080808010", "20 ffffffff1f", "10 ffffffff7f",
		"28 8080808080", "28 00 8080808010", "28 8080808010",
		"11 8080808080", "11 ffffffff1f",
		"0e 8080808080", "0e 8080808010", "0e 00 8080808010", "0e 02 00 00 ffffffff1f", "0e 02 00 8080808080",
	} {
		wantWrongParts(t, parts, api.ErrMalformed)
		wantWrongParts(t, "01 04 7f 01 05 "+parts, api.ErrMalformed)
	}
	for _, parts := range []string{
		"41 80808080", "42 808080808080808080", "0c 80808080", "28 ff", "28 00 ffffffff", "11 80", "0e 80808080", "0e 00 80", "0e 01 00 ff",
	} {
		wantWrongParts(t, parts, api.ErrEnd)
	}
}

func TestDecodeWrongKinds(t *testing.T) {
	for _, op := range []string{"02 ", "03 ", "04 ", "04 40 05 02 "} {
		for k := range 256 {
			at := hex.EncodeToString([]byte{byte(k)})
			switch k {
			case 0x40, 0x7f, 0x7e:
			case 0x7d, 0x7c:
				wantWrongParts(t, op+at, api.ErrUnsupported)
			default:
				wantWrongParts(t, op+at, api.ErrMalformed)
			}
		}
	}
}

func TestDecodeWrongZeros(t *testing.T) {
	for c := 1; c < 256; c++ {
		at := hex.EncodeToString([]byte{byte(c)})
		for _, ahead := range []string{"3f ", "40 ", "11 00 ", "11 ffffffff0f ", "02 40 3f 00 40 "} {
			wantWrongParts(t, ahead+at, api.ErrMalformed)
		}
	}
}

func TestDecodeMaxLabels(t *testing.T) {
	for _, n := range []int{MaxLabels, MaxLabels + 1} {
		b := append([]byte{0x0e}, leb.PutU(nil, uint64(n-1))...)
		for _, label := range labels(n) {
			b = append(b, leb.PutU(nil, uint64(label))...)
		}
		wantDecoded(t, append(b, 0x0b), one(api.Instr{Op: 0x0e, Labels: labels(n)}))
	}
	wantWrongParts(t, "0e 8102", api.ErrLimit)
	wantWrongParts(t, "01 0e 8182808000", api.ErrLimit)
	wantWrongParts(t, "0e ffffffff0f", api.ErrLimit)
	wantWrong(t, append([]byte{0x0e, 0x81, 0x02}, make([]byte, 300)...), 1, api.ErrLimit)
}

// TestDecodeMaxBody: one instruction more is wrong at its number, whatever stands behind it; what is no instruction is told first.
func TestDecodeMaxBody(t *testing.T) {
	for what, l := range bodies(api.MaxBody) {
		b, err := Encode(l)
		if err != nil {
			t.Fatalf("%s: %v", what, err)
		}
		wantDecoded(t, b, l)
		last := len(b) - 1
		for _, op := range []byte{0x01, 0x41, 0x02, 0x0e} {
			wantWrong(t, append(b[:last:last], op), last, api.ErrLimit)
			wantWrong(t, append(b[:last:last], op, 0x0b), last, api.ErrLimit)
		}
		wantWrong(t, append(b[:last:last], 0x43), last, api.ErrUnsupported)
		wantWrong(t, append(b[:last:last], 0x05), last, api.ErrMalformed)
		wantWrong(t, append(b[:last:last], 0xff), last, api.ErrMalformed)
		wantWrong(t, b[:last], last, api.ErrEnd)
	}
	inBlock := append([]byte{0x04, 0x40}, bytes.Repeat([]byte{1}, api.MaxBody-1)...)
	wantWrong(t, append(inBlock, 1), len(inBlock), api.ErrLimit)
	wantWrong(t, append(inBlock, 5, 1), len(inBlock)+1, api.ErrLimit)
	wantWrong(t, append(inBlock, 0x0b, 1), len(inBlock)+1, api.ErrLimit)
}

func TestDecodeMaxNest(t *testing.T) {
	open := bytes.Repeat([]byte{0x02, 0x40}, api.MaxNest)
	for _, op := range []byte{2, 3, 4} {
		wantWrong(t, append(bytes.Clone(open), op), len(open), api.ErrLimit)
		wantWrong(t, append(bytes.Clone(open), op, 0x7d), len(open), api.ErrLimit)
		wantWrong(t, append(bytes.Clone(open), 1, 0x41, 0, op, 0x40), len(open)+3, api.ErrLimit)
		ifs := append(bytes.Clone(open[:len(open)-2]), 4, 0x40, 5, op)
		wantWrong(t, ifs, len(ifs)-1, api.ErrLimit)
		// Where one is closed, another one may be opened.
		again := append(bytes.Clone(open), 0x0b, op, 0x40)
		again = append(again, bytes.Repeat([]byte{0x0b}, api.MaxNest+1)...)
		want := deepest(api.MaxNest-1, []api.Instr{{Op: 2}, {Op: op}})
		wantDecoded(t, again, want)
	}
	wantWrong(t, append(bytes.Clone(open), 0x43), len(open), api.ErrUnsupported)
	wantWrong(t, append(bytes.Clone(open), 0x05), len(open), api.ErrMalformed)
	wantWrong(t, bytes.Repeat([]byte{0x04, 0x40}, 1<<12), 2*api.MaxNest, api.ErrLimit)
	wantDecoded(t, append(bytes.Clone(open), bytes.Repeat([]byte{0x0b}, api.MaxNest+1)...), deepest(api.MaxNest, nil))
}

// TestDecodeAnswersNewMemory: no two lists of an answer share any, and none with the bytes.
func TestDecodeAnswersNewMemory(t *testing.T) {
	b, _ := join(t, "0e 01 02 03 04 40 01 05 01 0b 0e 01 02 03 02 40 01 0b 0b")
	want, _, _ := Decode(b)
	want = tidy(want)
	got, _, err := Decode(b)
	if err != nil {
		t.Fatal(err)
	}
	clear(b)
	if !equal(got, want) {
		t.Errorf("the answer hangs on the bytes")
	}
	for i := range got {
		for place, list := range [][]api.Instr{got[i].Body, got[i].Else} {
			for j, room := 0, list[:cap(list)]; j < len(room); j++ {
				room[j] = api.Instr{Op: byte(0xf0 + place)}
			}
		}
		for j, room := 0, got[i].Labels[:cap(got[i].Labels)]; j < len(room); j++ {
			room[j] = 77
		}
		for j := i + 1; j < len(got); j++ {
			if !equal(got[j:j+1], want[j:j+1]) {
				t.Errorf("item %d hangs on item %d", j, i)
			}
		}
	}
	if !Same(got[1].Body, one(api.Instr{Op: 0xf0})) || !Same(got[1].Else, one(api.Instr{Op: 0xf1})) {
		t.Errorf("an if's two lists hang on each other")
	}
}

// EX3.

func TestDecodeOfEncode(t *testing.T) {
	lists := [][]api.Instr{nested(api.MaxNest), slices.Concat(nested(api.MaxNest), nested(7)), one(api.Instr{Op: 0x0e, Labels: labels(MaxLabels + 1)})}
	var all []api.Instr
	for _, c := range tellings() {
		lists = append(lists, c.l)
		all = append(all, c.l...)
	}
	lists = append(lists, all, one(api.Instr{Op: 4, Body: all, Else: all}))
	for _, l := range bodies(api.MaxBody) {
		lists = append(lists, l)
	}
	for _, l := range lists {
		b, err := Encode(l)
		if err != nil {
			t.Fatalf("Encode of %d instructions: %v", Count(l), err)
		}
		wantDecoded(t, b, l)
		if got, _, _ := Decode(b); !Same(got, l) || Count(got) != Count(l) {
			t.Errorf("Decode of Encode of %d instructions is not the same", Count(l))
		}
	}
}

// scanner is Decode by the chapter's words alone: bytes are gone over once, with nothing made of them.
type scanner struct {
	b     []byte
	at    int
	err   error
	count int
	open  []bool // whether an else may come, of the whole and each block that is open
}

// scan is how many bytes instructions have, or the place of the wrong part and its error.
func scan(b []byte) (int, error) {
	s := scanner{b: b, open: []bool{false}}
	for s.err == nil && len(s.open) > 0 {
		s.op()
	}
	return s.at, s.err
}

func (s *scanner) op() {
	if s.at == len(s.b) {
		s.err = api.ErrEnd
		return
	}
	op, top := s.b[s.at], len(s.open)-1
	form, none := ops.Form(op)
	block := op == 2 || op == 3 || op == 4
	switch {
	case op == 0x0b:
		s.open = s.open[:top]
		s.at++
	case op == 0x05 && s.open[top]:
		s.open[top] = false
		s.at++
	case ops.Float(op):
		s.err = api.ErrUnsupported
	case none != nil:
		s.err = api.ErrMalformed
	case s.count == 1<<14, block && top == 64:
		s.err = api.ErrLimit
	default:
		s.count++
		s.at++
		s.fields(op, form)
	}
}

func (s *scanner) fields(op byte, form int) {
	switch form {
	case ops.Const32:
		s.signed(32)
	case ops.Const64:
		s.signed(64)
	case ops.Index:
		s.number()
	case ops.Address:
		s.number()
		s.number()
	case ops.Memory:
		s.single("\x00", "")
	case ops.Call:
		s.number()
		s.single("\x00", "")
	case ops.Table:
		first := s.at
		more := s.number() + 1
		if more > 257 {
			s.at, s.err = first, api.ErrLimit
		}
		for s.err == nil && more > 0 {
			s.number()
			more--
		}
	case ops.Block, ops.If:
		s.single("\x40\x7f\x7e", "\x7d\x7c")
		s.open = append(s.open, op == 4)
	}
}

func (s *scanner) number() uint64 {
	if s.err != nil {
		return 0
	}
	v, n, err := leb.TakeU(s.b[s.at:], 32)
	s.at, s.err = s.at+n, err
	return v
}

func (s *scanner) signed(bits int) {
	_, n, err := leb.TakeS(s.b[s.at:], bits)
	s.at, s.err = s.at+n, err
}

func (s *scanner) single(good, unsupported string) {
	switch {
	case s.err != nil:
	case s.at == len(s.b):
		s.err = api.ErrEnd
	case strings.IndexByte(unsupported, s.b[s.at]) >= 0:
		s.err = api.ErrUnsupported
	case strings.IndexByte(good, s.b[s.at]) < 0:
		s.err = api.ErrMalformed
	default:
		s.at++
	}
}

// holdDecode holds Decode against scan; what is decoded may be, and is itself again by way of its bytes.
func holdDecode(t *testing.T, b []byte) {
	t.Helper()
	wantAt, wantErr := scan(b)
	l, at, err := Decode(b)
	if at != wantAt || err != wantErr || err != nil && len(l) != 0 {
		t.Fatalf("Decode(%x): %d instructions, %d, %v, want %d, %v", b, len(l), at, err, wantAt, wantErr)
	}
	if err != nil {
		return
	}
	told, err := Encode(l)
	if err != nil || Check(l) != nil || len(told) > at {
		t.Fatalf("Encode of Decode(%x): %x, %v", b, told, err)
	}
	if again, n, err := Decode(told); !Same(again, l) || n != len(told) || err != nil {
		t.Fatalf("Decode(%x), encoded and decoded: %v, %v, want %v", b, again, err, l)
	}
}

// TestDecodeShortBytes: all bytes of length 0 to 2, and all longer ones of some that matter.
func TestDecodeShortBytes(t *testing.T) {
	var every, some []byte
	for c := range 256 {
		every = append(every, byte(c))
	}
	some = []byte{0x00, 0x01, 0x02, 0x04, 0x05, 0x0b, 0x0e, 0x11, 0x28, 0x3f, 0x40, 0x41, 0x43, 0x7c, 0x7f, 0x80}
	var walk func(b, letters []byte, more int)
	walk = func(b, letters []byte, more int) {
		holdDecode(t, b)
		if more > 0 {
			for _, c := range letters {
				walk(append(b[:len(b):len(b)], c), letters, more-1)
			}
		}
	}
	walk(nil, every, 2)
	walk(nil, some, 4)
	walk([]byte{0x04, 0x40}, some, 4)
	walk([]byte{0x04, 0x40}, []byte{0x02, 0x04, 0x40, 0x05, 0x0b, 0x01}, 7)
}

// TestDecodeMixedBytes: long ones, of parts that are mostly right, by a fixed row of numbers.
func TestDecodeMixedBytes(t *testing.T) {
	pieces := []string{
		"\x00", "\x01", "\x1a", "\x6a", "\xad", "\x41\x05", "\x41\xff\x7f", "\x42\x80\x80\x01", "\x20\x80\x00", "\x10\x07",
		"\x36\x02\x10", "\x28\x80\x80\x80\x80\x0f\x00", "\x3f\x00", "\x40\x00", "\x11\x03\x00", "\x0e\x00\x00", "\x0e\x02\x01\x80\x01\x00",
		"\x02\x40", "\x03\x7f", "\x04\x7e", "\x04\x40", "\x04\x40", "\x0b", "\x0b", "\x0b", "\x05", "\x05",
	}
	state := uint64(1)
	next := func(n int) int {
		state = state*6364136223846793005 + 1442695040888963407
		return int(state>>33) % n
	}
	for range 60000 {
		var b []byte
		for range next(40) {
			if next(60) == 0 {
				b = append(b, byte(next(256)))
			} else {
				b = append(b, pieces[next(len(pieces))]...)
			}
		}
		holdDecode(t, b)
		holdDecode(t, append(b, bytes.Repeat([]byte{0x0b}, 40)...))
	}
}

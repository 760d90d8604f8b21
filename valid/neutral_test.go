package valid_test

import (
	"slices"
	"strings"
	"testing"

	"mandrel/api"
	"mandrel/ops"
	"mandrel/valid"
)

// VA3.

// without are instructions without effect, and whether values are laid by them.
type without struct {
	code []api.Instr
	lays bool
}

func withoutEffect() []without {
	return []without{
		{code("nop"), false},
		{code("block ( )"), false},
		{code("block ( nop block ( ) )"), false},
		{code("i32.const 1 drop"), true},
		{code("i64.const -1 drop"), true},
		{code("block ( i64.const 1 drop )"), true},
	}
}

// everywhere hands out a body with something put at each place of each list in it, one after another.
func everywhere(l []api.Instr, put []api.Instr, do func(l []api.Instr)) {
	for i := range len(l) + 1 {
		do(slices.Concat(l[:i], put, l[i:]))
	}
	within(l, func(inner []api.Instr, do func(l []api.Instr)) { everywhere(inner, put, do) }, do)
}

// within hands out a body with each list of its blocks changed.
func within(l []api.Instr, change func(inner []api.Instr, do func(l []api.Instr)), do func(l []api.Instr)) {
	for i, in := range l {
		if in.Op < 2 || in.Op > 4 {
			continue
		}
		change(in.Body, func(inner []api.Instr) {
			out := slices.Clone(l)
			out[i].Body = inner
			do(out)
		})
		if in.Op != 4 {
			continue
		}
		change(in.Else, func(inner []api.Instr) {
			out := slices.Clone(l)
			out[i].Else = inner
			do(out)
		})
	}
}

// wantSame holds a module with a changed body against the one without; by consts its stack may be one higher.
func wantSame(t *testing.T, m api.Module, body []api.Instr, lays bool) {
	t.Helper()
	f, err := valid.Check(m)
	height, heightErr := valid.Height(m, 0)
	old := m.Funcs[0].Body
	m.Funcs[0].Body = body
	defer func() { m.Funcs[0].Body = old }()
	gotF, gotErr := valid.Check(m)
	got, gotHeightErr := valid.Height(m, 0)
	if gotF != f || number(gotErr) != number(err) || number(gotHeightErr) != number(heightErr) || number(valid.Body(m, 0)) != number(heightErr) {
		t.Fatalf("%s became %s: %d, %v became %d, %v", told(old), told(body), f, err, gotF, gotErr)
	}
	if got != height && !(lays && gotHeightErr == nil && got == height+1) {
		t.Fatalf("%s became %s: the height %d became %d", told(old), told(body), height, got)
	}
	wantAsSecond(t, m)
}

// someModules are those of all bodies above, and made ones.
func someModules() []api.Module {
	out := made(4, 1000)
	for _, b := range allBodies() {
		for _, text := range slices.Concat(b.may, b.not) {
			out = append(out, bench(b.typ, code(text)))
		}
	}
	return out
}

func TestWithoutEffect(t *testing.T) {
	for _, m := range someModules() {
		for _, w := range withoutEffect() {
			everywhere(m.Funcs[0].Body, w.code, func(body []api.Instr) { wantSame(t, m, body, w.lays) })
		}
	}
}

// TestConstThatIsDropped: where the stack is highest, it counts as any value does.
func TestConstThatIsDropped(t *testing.T) {
	wantAnswers(t, "ahead", bench(typeNone, code("i64.const 1 drop i32.const 1 i32.const 1 drop drop")), 0, 2, 0)
	wantAnswers(t, "on top", bench(typeNone, code("i32.const 1 i32.const 1 i64.const 1 drop drop drop")), 0, 3, 0)
	wantAnswers(t, "behind br", bench(typeNone, code("br 0 i64.const 1 drop")), 0, 0, 0)
}

// moved are instructions whose labels beyond so many blocks are those of one block more.
func moved(l []api.Instr, nest int) []api.Instr {
	out := copyOfCode(l)
	for i := range out {
		in := &out[i]
		if (in.Op == 0x0c || in.Op == 0x0d) && in.N >= int64(nest) {
			in.N++
		}
		for j := range in.Labels {
			if int64(in.Labels[j]) >= int64(nest) && in.Labels[j]+1 > 0 {
				in.Labels[j]++
			}
		}
		in.Body, in.Else = moved(in.Body, nest+1), moved(in.Else, nest+1)
	}
	return out
}

// goesThrough says whether instructions, by themselves, take nothing from beneath, leave nothing, and what is behind them is come to.
func goesThrough(m api.Module, l []api.Instr, labels []api.Kind) bool {
	for _, in := range l {
		if strings.Contains(" unreachable br br_table return ", " "+ops.Name(in.Op)+" ") {
			return false
		}
	}
	t := m.Types[m.Funcs[0].Type]
	s := &second{m: m, result: t.Result, locals: append(slices.Clone(t.Params), m.Funcs[0].Locals...)}
	return s.runs(l, labels, api.None, 0, true)
}

// blocksAbout hands out a body with a block of none about each part of each list that goes through.
func blocksAbout(m api.Module, l []api.Instr, labels []api.Kind, do func(l []api.Instr)) {
	for i := range len(l) + 1 {
		for j := i; j <= len(l); j++ {
			if goesThrough(m, l[i:j], labels) {
				do(slices.Concat(l[:i], []api.Instr{{Op: 2, Body: moved(l[i:j], 0)}}, l[j:]))
			}
		}
	}
	for i, in := range l {
		if in.Op < 2 || in.Op > 4 {
			continue
		}
		hands := in.Result
		if in.Op == 3 {
			hands = api.None
		}
		inner := append([]api.Kind{hands}, labels...)
		within(l[i:i+1], func(list []api.Instr, do func(l []api.Instr)) { blocksAbout(m, list, inner, do) }, func(one []api.Instr) {
			do(slices.Concat(l[:i], one, l[i+1:]))
		})
	}
}

func TestBlocksAboutLists(t *testing.T) {
	n := 0
	for _, m := range someModules() {
		// Bodies that may not run too: what goes through is not what is wrong with them.
		hands := []api.Kind{m.Types[m.Funcs[0].Type].Result}
		blocksAbout(m, m.Funcs[0].Body, hands, func(body []api.Instr) {
			n++
			wantSame(t, m, body, false)
		})
	}
	if n < 10000 {
		t.Errorf("only %d blocks", n)
	}
}

// TestBlockAboutBody: about the whole body of a function that gives nothing.
func TestBlockAboutBody(t *testing.T) {
	for _, m := range someModules() {
		if m.Types[m.Funcs[0].Type].Result == api.None {
			wantSame(t, m, []api.Instr{{Op: 2, Body: moved(m.Funcs[0].Body, 0)}}, false)
		}
	}
}

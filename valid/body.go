package valid

import (
	"math"
	"math/bits"
	"slices"

	"mandrel/api"
	"mandrel/opcode"
	"mandrel/ops"
)

// anyKind is that of a value behind br and such that was not laid there: it passes for each kind.
const anyKind api.Kind = 1

// walk goes over a body, with a stack of kinds.
type walk struct {
	module api.Module
	locals []api.Kind
	labels []api.Kind // what each hands on, the innermost one last
	stack  []api.Kind
	scope  scope
	most   int // how many stood on the stack at most
}

// scope is where the walk is in the innermost list of instructions.
type scope struct {
	beneath int  // how many values of the stack are not the list's own
	behind  bool // it is behind br and such in this list
	within  bool // the list stands in a block that is
}

// goOver is how many values stand on the stack of a function at most, which is there, as its type is; false, if its body may not run.
func goOver(m api.Module, f int) (int, bool) {
	fn := m.Funcs[f]
	t := m.Types[fn.Type]
	w := walk{module: m, locals: slices.Concat(t.Params, fn.Locals)}
	ok := w.list(fn.Body, t.Result, t.Result)
	return w.most, ok
}

// list goes over instructions with a label of their own, at whose end just the result must stand; it is taken.
func (w *walk) list(l []api.Instr, label, result api.Kind) bool {
	outer := w.scope
	w.scope = scope{beneath: len(w.stack), within: outer.behind || outer.within}
	w.labels = append(w.labels, label)
	for _, in := range l {
		if !w.instr(in) {
			return false
		}
	}
	if !w.take(result) || len(w.stack) > w.scope.beneath {
		return false
	}
	w.labels = w.labels[:len(w.labels)-1]
	w.scope = outer
	return true
}

func (w *walk) instr(in api.Instr) bool {
	switch in.Op {
	case opcode.Drop:
		_, ok := w.takeAny()
		return ok
	case opcode.Select:
		return w.selectOne()
	case opcode.Block:
		return w.block(in.Result, in.Result, in.Body)
	case opcode.Loop:
		return w.block(api.None, in.Result, in.Body)
	case opcode.If:
		return w.take(api.I32) && w.block(in.Result, in.Result, in.Body, in.Else)
	}
	t, ok := w.sign(in)
	if !ok || !w.apply(t) {
		return false
	}
	if goesOff(in.Op) {
		w.scope.behind = true
		w.stack = w.stack[:w.scope.beneath]
	}
	return true
}

// goesOff says whether what stands behind an instruction is never come to from it.
func goesOff(op byte) bool {
	return op == opcode.Unreachable || op == opcode.Br || op == opcode.BrTable || op == opcode.Return
}

// block goes over lists that stand for one another, and lays what each of them gives.
func (w *walk) block(label, result api.Kind, lists ...[]api.Instr) bool {
	// Else a kind that is none would pass behind br and such, where values are of any kind.
	if !isResult(result) {
		return false
	}
	for _, l := range lists {
		if !w.list(l, label, result) {
			return false
		}
	}
	w.lay(result)
	return true
}

// takeAny takes the uppermost value, of which kind it may be.
func (w *walk) takeAny() (api.Kind, bool) {
	top := len(w.stack) - 1
	if top < w.scope.beneath {
		return anyKind, w.scope.behind
	}
	k := w.stack[top]
	w.stack = w.stack[:top]
	return k, true
}

// take takes a value of a kind; of None there is nothing to take.
func (w *walk) take(k api.Kind) bool {
	if k == api.None {
		return true
	}
	got, ok := w.takeAny()
	return ok && (got == k || got == anyKind)
}

// lay lays a value of a kind; of None there is nothing to lay.
func (w *walk) lay(k api.Kind) {
	if k == api.None {
		return
	}
	w.stack = append(w.stack, k)
	if !w.scope.behind && !w.scope.within {
		w.most = max(w.most, len(w.stack))
	}
}

// selectOne takes two values of one kind, beneath the one by which it selects, and lays one.
func (w *walk) selectOne() bool {
	if !w.take(api.I32) {
		return false
	}
	// Where the upper one is missing, the lower one is too; where it is of any kind, the lower one is, as nothing was laid beneath such a value.
	b, _ := w.takeAny()
	a, ok := w.takeAny()
	if a == anyKind {
		a = b
	}
	if !ok || a != b {
		return false
	}
	w.lay(a)
	return true
}

// apply takes the last value first.
func (w *walk) apply(t api.Type) bool {
	for _, k := range slices.Backward(t.Params) {
		if !w.take(k) {
			return false
		}
	}
	w.lay(t.Result)
	return true
}

// sign is what an instruction takes (None among it is nothing), and what it gives; false, if it may not be there.
func (w *walk) sign(in api.Instr) (api.Type, bool) {
	switch in.Op {
	case opcode.Nop, opcode.Unreachable:
		return api.Type{}, true
	case opcode.Return:
		return takes(w.labels[0]), true
	case opcode.Br:
		k, ok := w.label(in.N)
		return takes(k), ok
	case opcode.BrIf:
		k, ok := w.label(in.N)
		return api.Type{Params: []api.Kind{k, api.I32}, Result: k}, ok
	case opcode.BrTable:
		k, ok := w.commonLabel(in.Labels)
		return takes(k, api.I32), ok
	case opcode.Call:
		return typeOf(w.module, in.N)
	case opcode.CallIndirect:
		t, ok := item(w.module.Types, in.N)
		t.Params = slices.Concat(t.Params, []api.Kind{api.I32})
		return t, ok && len(w.module.Tables) > 0
	case opcode.LocalGet, opcode.LocalSet, opcode.LocalTee:
		k, ok := item(w.locals, in.N)
		return localSign(in.Op, k), ok
	case opcode.GlobalGet:
		g, ok := item(w.module.Globals, in.N)
		return api.Type{Result: g.Kind}, ok
	case opcode.GlobalSet:
		g, ok := item(w.module.Globals, in.N)
		return takes(g.Kind), ok && g.Mut
	}
	return w.plainSign(in)
}

func takes(params ...api.Kind) api.Type { return api.Type{Params: params} }

func localSign(op byte, k api.Kind) api.Type {
	switch op {
	case opcode.LocalGet:
		return api.Type{Result: k}
	case opcode.LocalSet:
		return takes(k)
	}
	return api.Type{Params: []api.Kind{k}, Result: k}
}

// plainSign is of the instructions whose kinds hang on their number alone.
func (w *walk) plainSign(in api.Instr) (api.Type, bool) {
	t, err := ops.Sign(in.Op)
	if err != nil {
		return api.Type{}, false
	}
	// What has a sign has a form.
	form, _ := ops.Form(in.Op)
	switch form {
	case ops.Const32:
		return t, math.MinInt32 <= in.N && in.N <= math.MaxInt32
	case ops.Address:
		return t, len(w.module.Memories) > 0 && alignMayBe(in)
	case ops.Memory:
		return t, len(w.module.Memories) > 0
	}
	return t, true
}

// alignMayBe says whether 2^Align is at most how many bytes a load or store has, which is a power of 2.
func alignMayBe(in api.Instr) bool {
	n, _, err := ops.Bytes(in.Op)
	return err == nil && int64(in.Align) < int64(bits.Len(uint(n)))
}

// label is what the label of a number hands on, if it is there. (Of a number below 0 the place is beyond the last one, or, where it begins anew at 2^63, below 0.)
func (w *walk) label(n int64) (api.Kind, bool) {
	return item(w.labels, int64(len(w.labels))-1-n)
}

// commonLabel is what all those labels hand on; false, if there are none, or it is not the same.
func (w *walk) commonLabel(labels []uint32) (api.Kind, bool) {
	last, ok := item(labels, int64(len(labels))-1)
	if !ok {
		return api.None, false
	}
	k, ok := w.label(int64(last))
	return k, ok && all(labels, func(n uint32) bool {
		other, ok := w.label(int64(n))
		return ok && other == k
	})
}

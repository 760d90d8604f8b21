package sample

import (
	"slices"

	"mandrel/api"
	"mandrel/num"
	"mandrel/opcode"
	"mandrel/ops"
)

// Maker makes modules that may run, by the numbers that Intn gives: each from 0 on, below the one that it is handed.
type Maker struct {
	Intn   func(below int) int
	m      api.Module
	locals []api.Kind
	result api.Kind
}

// madeFuncs is how many functions a made module has, and madeNest how many blocks stand in one another at most.
const (
	madeFuncs = 6
	madeNest  = 4
)

// Module is one all of whose functions are made; it has all else that Bench has.
func (k *Maker) Module() api.Module {
	k.m = Bench(TypeNone, nil)
	k.m.Funcs = nil
	k.m.Elems[0].Funcs = nil
	for f := range madeFuncs {
		typ := uint32(k.Intn(len(k.m.Types)))
		k.m.Funcs = append(k.m.Funcs, api.Func{Type: typ, Locals: []api.Kind{api.I32, api.I64, api.I32}})
		k.m.Elems[0].Funcs = append(k.m.Elems[0].Funcs, uint32(f))
	}
	k.m.Tables[0].Min = madeFuncs + 1
	for i := range k.m.Funcs {
		f := &k.m.Funcs[i]
		t := k.m.Types[f.Type]
		k.locals, k.result = slices.Concat(t.Params, f.Locals), t.Result
		f.Body = k.instrs([]label{{hands: t.Result}}, t.Result, madeNest)
	}
	return k.m
}

// Args are some that a function of a module takes, mostly small ones.
func (k *Maker) Args(m api.Module, f int) []uint64 {
	var out []uint64
	for _, kind := range m.Types[m.Funcs[f].Type].Params {
		// No error: the kinds of a made module are right.
		v, _ := num.Value(kind, One[int64](k, 0, 1, 2, 9, -1, 4093))
		out = append(out, v)
	}
	return out
}

// One is one of a list.
func One[T any](k *Maker, l ...T) T { return l[k.Intn(len(l))] }

// label is what a label hands on, and whether it is a loop's.
type label struct {
	hands api.Kind
	loop  bool
}

// body is a list that is being made, and the kinds that it has laid so far; behind br and such those since then.
type body struct {
	list   []api.Instr
	stack  []api.Kind
	behind bool
}

// put puts instructions that take nothing of the stack, and leave a kind.
func (b *body) put(leaves api.Kind, l ...api.Instr) {
	b.list = append(b.list, l...)
	b.stack = append(b.stack, kinds(leaves)...)
}

// kinds is a list of a kind that may be None.
func kinds(k api.Kind) []api.Kind {
	if k == api.None {
		return nil
	}
	return []api.Kind{k}
}

// instrs makes a list that leaves just its result; the labels are those about it, the innermost one first.
func (k *Maker) instrs(labels []label, result api.Kind, nest int) []api.Instr {
	var b body
	for range k.Intn(7) {
		k.part(&b, labels, nest)
	}
	if slices.Equal(b.stack, kinds(result)) || b.behind && len(b.stack) == 0 {
		return b.list
	}
	if !labels[0].loop && k.Intn(2) == 0 {
		return append(append(b.list, k.value(result)...), api.Instr{Op: opcode.Br})
	}
	for range b.stack {
		b.list = append(b.list, api.Instr{Op: opcode.Drop})
	}
	return append(b.list, k.value(result)...)
}

// part makes some more of a list.
func (k *Maker) part(b *body, labels []label, nest int) {
	switch k.Intn(11) {
	case 0, 1, 2:
		k.plain(b)
	case 3:
		k.fold(b)
	case 4, 5:
		if nest > 0 {
			k.block(b, labels, nest-1)
		}
	case 6:
		k.branchIf(b, labels)
	case 7:
		k.call(b)
	case 8:
		if k.Intn(6) == 0 {
			b.put(api.None, k.leave(labels)...)
			b.stack, b.behind = nil, true
		}
	case 9:
		kind := One(k, api.I32, api.I64)
		b.put(kind, append(k.values(kind, kind, api.I32), api.Instr{Op: opcode.Select})...)
	case 10:
		k.bare(b, labels)
	}
}

// value is instructions that give one of a kind, mostly a small one.
func (k *Maker) value(kind api.Kind) []api.Instr {
	at := k.Intn(len(k.locals) + 1)
	switch {
	case kind == api.None:
		return nil
	case k.Intn(3) > 0 && at < len(k.locals) && k.locals[at] == kind:
		return []api.Instr{{Op: opcode.LocalGet, N: int64(at)}}
	case k.Intn(4) == 0:
		g := slices.IndexFunc(k.m.Globals, func(g api.Global) bool { return g.Kind == kind })
		return []api.Instr{{Op: opcode.GlobalGet, N: int64(g)}}
	case kind == api.I32:
		return []api.Instr{const32(One[int64](k, 0, 0, 1, 2, 3, 5, 40, 4092, 8190, -1, -5, 1<<31-1, -1<<31))}
	}
	return []api.Instr{{Op: opcode.Const64, N: One[int64](k, 0, 0, 1, 2, 3, 7, 33, -1, -9, 1<<32, 1<<40+7, 1<<63-1, -1<<63)}}
}

func const32(n int64) api.Instr { return api.Instr{Op: opcode.Const32, N: n} }

// values are of some kinds, the last one at the top.
func (k *Maker) values(l ...api.Kind) []api.Instr {
	var out []api.Instr
	for _, kind := range l {
		out = append(out, k.value(kind)...)
	}
	return out
}

// plain puts one of layer 4's instructions with a sign, and what it takes.
func (k *Maker) plain(b *body) {
	// The one quotient that is none comes too seldom by itself.
	if k.Intn(200) == 0 {
		b.put(api.I32, const32(-1<<31), const32(-1), api.Instr{Op: opcode.FirstDiv32})
	}
	in, sign := k.withSign()
	// What it takes first may stand there already.
	takes := sign.Params
	if n := len(b.stack); n > 0 && len(takes) > 0 && b.stack[n-1] == takes[0] {
		b.stack, takes = b.stack[:n-1], takes[1:]
	}
	b.put(sign.Result, append(k.values(takes...), in)...)
}

// withSign is an instruction that has a sign, and is no const.
func (k *Maker) withSign() (api.Instr, api.Type) {
	for {
		op := byte(k.Intn(256))
		sign, err := ops.Sign(op)
		form, _ := ops.Form(op)
		if err != nil || form == ops.Const32 || form == ops.Const64 || form == ops.Memory && k.Intn(3) > 0 {
			continue
		}
		in := api.Instr{Op: op}
		if form == ops.Address {
			in.Offset = One[uint32](k, 0, 0, 1, 7, 4080, 1<<32-1)
		}
		return in, sign
	}
}

// fold takes the uppermost value away, or leaves it as it is.
func (k *Maker) fold(b *body) {
	n := len(b.stack)
	if n == 0 {
		return
	}
	kind := b.stack[n-1]
	b.stack = b.stack[:n-1]
	l, g := k.Intn(len(k.locals)+1), k.Intn(len(k.m.Globals))
	switch {
	case l < len(k.locals) && k.locals[l] == kind && k.Intn(2) == 0:
		b.put(kind, api.Instr{Op: opcode.LocalTee, N: int64(l)})
	case l < len(k.locals) && k.locals[l] == kind:
		b.put(api.None, api.Instr{Op: opcode.LocalSet, N: int64(l)})
	case k.m.Globals[g].Kind == kind && k.m.Globals[g].Mut:
		b.put(api.None, api.Instr{Op: opcode.GlobalSet, N: int64(g)})
	default:
		b.put(api.None, api.Instr{Op: opcode.Drop}, api.Instr{Op: opcode.Nop})
	}
}

func (k *Maker) block(b *body, labels []label, nest int) {
	in := api.Instr{Op: One[byte](k, opcode.Block, opcode.Loop, opcode.If), Result: One(k, api.None, api.I32, api.I64)}
	inner := label{hands: in.Result}
	if in.Op == opcode.Loop {
		inner = label{loop: true}
	}
	labels = append([]label{inner}, labels...)
	in.Body = k.instrs(labels, in.Result, nest)
	if in.Op == opcode.If {
		b.put(api.None, k.value(api.I32)...)
	}
	if in.Op == opcode.If && (in.Result != api.None || k.Intn(2) == 0) {
		in.Else = k.instrs(labels, in.Result, nest)
	}
	b.put(in.Result, in)
}

// branchIf goes to a label: to a loop's mostly by a number that is less each time, so that many of them end.
func (k *Maker) branchIf(b *body, labels []label) {
	n := k.Intn(len(labels))
	l := labels[n]
	b.put(api.None, k.value(l.hands)...)
	if l.loop && k.Intn(4) > 0 {
		last := int64(len(k.locals) - 1)
		b.put(api.None, api.Instr{Op: opcode.LocalGet, N: last}, const32(1), api.Instr{Op: 0x6b}, api.Instr{Op: opcode.LocalTee, N: last}, const32(3), api.Instr{Op: 0x71})
	} else {
		b.put(api.None, k.value(api.I32)...)
	}
	b.put(l.hands, api.Instr{Op: opcode.BrIf, N: int64(n)})
}

func (k *Maker) call(b *body) {
	if k.Intn(2) == 0 {
		f := k.Intn(len(k.m.Funcs))
		t := k.m.Types[k.m.Funcs[f].Type]
		b.put(t.Result, append(k.values(t.Params...), api.Instr{Op: opcode.Call, N: int64(f)})...)
		return
	}
	typ := k.Intn(len(k.m.Types))
	t := k.m.Types[typ]
	at := const32(int64(k.Intn(len(k.m.Funcs) + 2)))
	b.put(t.Result, append(k.values(t.Params...), at, api.Instr{Op: opcode.CallIndirect, N: int64(typ)})...)
}

// leave goes off, out of anything.
func (k *Maker) leave(labels []label) []api.Instr {
	n := k.Intn(len(labels))
	hands := labels[n].hands
	switch k.Intn(7) {
	case 0:
		return []api.Instr{{Op: opcode.Unreachable}}
	case 1:
		return append(k.value(k.result), api.Instr{Op: opcode.Return})
	case 2, 3:
		return append(k.value(hands), api.Instr{Op: opcode.Br, N: int64(n)})
	}
	in := api.Instr{Op: opcode.BrTable}
	for i, l := range labels {
		if l.hands == hands && k.Intn(4) > 0 {
			in.Labels = append(in.Labels, uint32(i))
		}
	}
	in.Labels = append(in.Labels, uint32(n))
	return append(k.values(hands, api.I32), in)
}

// bare puts an instruction without what it takes: behind br and such, where nothing was laid since, all of that is there.
func (k *Maker) bare(b *body, labels []label) {
	if !b.behind || len(b.stack) > 0 {
		return
	}
	n := k.Intn(len(labels))
	switch k.Intn(6) {
	case 0:
		b.put(api.None, api.Instr{Op: opcode.Select}, api.Instr{Op: opcode.Drop})
	case 1:
		b.put(labels[n].hands, api.Instr{Op: opcode.BrIf, N: int64(n)})
	case 2:
		b.put(api.None, api.Instr{Op: opcode.BrTable, Labels: []uint32{uint32(n)}})
	case 3:
		b.put(api.None, api.Instr{Op: opcode.If})
	default:
		in, sign := k.withSign()
		b.put(sign.Result, in)
	}
}

package module

import (
	"mandrel/api"
	"mandrel/expr"
	"mandrel/leb"
	"mandrel/sect"
)

// writer lays what can be told, one part behind another.
type writer struct {
	bytes []byte
	done  []sect.Section
}

// run is so many locals of one kind.
type run struct {
	count int
	kind  api.Kind
}

// sections are those of a module that can be told.
func sections(m api.Module) []sect.Section {
	w := &writer{}
	laySection(w, typesID, m.Types, w.funcType)
	laySection(w, funcsID, m.Funcs, func(f api.Func) { w.number(f.Type) })
	laySection(w, tablesID, m.Tables, func(l api.Limits) {
		w.one(tableByte)
		w.bounds(l)
	})
	laySection(w, memoriesID, m.Memories, w.bounds)
	laySection(w, globalsID, m.Globals, w.global)
	laySection(w, exportsID, m.Exports, w.export)
	laySection(w, elemsID, m.Elems, w.elem)
	laySection(w, codesID, m.Funcs, w.code)
	laySection(w, datasID, m.Datas, w.data)
	return w.done
}

// laySection lays a list as a section, if it has items.
func laySection[T any](w *writer, id byte, l []T, lay func(item T)) {
	if len(l) == 0 {
		return
	}
	w.bytes = nil
	layList(w, l, lay)
	w.done = append(w.done, sect.Section{ID: id, Bytes: w.bytes})
}

// layList lays how many items a list has, and these.
func layList[T any](w *writer, l []T, lay func(item T)) {
	w.length(len(l))
	for _, item := range l {
		lay(item)
	}
}

func (w *writer) one(c byte) { w.bytes = append(w.bytes, c) }

func (w *writer) flag(is bool) {
	if is {
		w.one(1)
	} else {
		w.one(0)
	}
}

// number lays only the number by leb, as leb copies all that it is laid behind.
func (w *writer) number(v uint32) { w.bytes = append(w.bytes, leb.PutU(nil, uint64(v))...) }

// length is a number of 32 bits, as no list that can be told is longer.
func (w *writer) length(n int) { w.number(uint32(n)) }

func (w *writer) kind(k api.Kind) { w.one(byte(k)) }

// counted lays bytes behind how many they are.
func (w *writer) counted(b []byte) {
	w.length(len(b))
	w.bytes = append(w.bytes, b...)
}

// instrs lays instructions, and the byte that ends them.
func (w *writer) instrs(l []api.Instr) {
	// They may be, or the module could not be told.
	b, _ := expr.Encode(l)
	w.bytes = append(w.bytes, b...)
}

// value lays a beginning value: as bytes it is a list of one instruction.
func (w *writer) value(in api.Instr) { w.instrs([]api.Instr{in}) }

func (w *writer) funcType(t api.Type) {
	w.one(funcByte)
	layList(w, t.Params, w.kind)
	var results []api.Kind
	if t.Result != api.None {
		results = append(results, t.Result)
	}
	layList(w, results, w.kind)
}

func (w *writer) bounds(l api.Limits) {
	w.flag(l.Has)
	w.number(l.Min)
	if l.Has {
		w.number(l.Max)
	}
}

func (w *writer) global(g api.Global) {
	w.kind(g.Kind)
	w.flag(g.Mut)
	w.value(g.Init)
}

func (w *writer) export(e api.Export) {
	w.counted([]byte(e.Name))
	w.one(e.What)
	w.number(e.Index)
}

func (w *writer) elem(e api.Elem) {
	w.number(e.Table)
	w.value(e.Offset)
	layList(w, e.Funcs, w.number)
}

func (w *writer) data(d api.Data) {
	w.number(d.Memory)
	w.value(d.Offset)
	w.counted(d.Bytes)
}

// code lays a function's aside first, as it stands behind how many bytes it has.
func (w *writer) code(f api.Func) {
	aside := &writer{}
	layList(aside, runs(f.Locals), func(r run) {
		aside.length(r.count)
		aside.kind(r.kind)
	})
	aside.instrs(f.Body)
	w.counted(aside.bytes)
}

// runs are locals, in as few of them as can be.
func runs(locals []api.Kind) []run {
	var l []run
	for i, k := range locals {
		if i == 0 || locals[i-1] != k {
			l = append(l, run{kind: k})
		}
		l[len(l)-1].count++
	}
	return l
}

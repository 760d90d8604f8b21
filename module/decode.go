package module

import (
	"bytes"
	"slices"

	"mandrel/api"
	"mandrel/expr"
	"mandrel/parts"
	"mandrel/sect"
)

// reader takes the parts of one section after another. Its Bytes go up to the end of the section, or of the code, that is read.
type reader struct {
	parts.Reader
	module api.Module // as far as it was read
}

// judgeNumber is what is wrong with a number, by itself and by the bytes that are left behind it.
type judgeNumber func(n uint64, left []byte) error

// section takes all of a section's contents.
func (r *reader) section(id byte) {
	m := &r.module
	switch id {
	case customID:
		return
	case typesID:
		m.Types = takeList(r, judgeItems, r.funcType)
	case importsID:
		r.Number(atMost(0, api.ErrUnsupported))
	case funcsID:
		m.Funcs = takeList(r, judgeItems, func() api.Func { return api.Func{Type: r.Index()} })
	case tablesID:
		m.Tables = takeList(r, judgeItems, r.table)
	case memoriesID:
		m.Memories = takeList(r, judgeItems, r.bounds)
	case globalsID:
		m.Globals = takeList(r, judgeItems, r.global)
	case exportsID:
		m.Exports = takeList(r, judgeItems, r.export)
	case startID:
		r.Err = api.ErrUnsupported
	case elemsID:
		m.Elems = takeList(r, judgeItems, r.elem)
	case codesID:
		r.codes()
	case datasID:
		m.Datas = takeList(r, judgeItems, r.data)
	}
	r.end()
}

// takeList takes how many items a list has, if judge has nothing against it, and these.
func takeList[T any](r *reader, judge judgeNumber, take func() T) []T {
	var l []T
	for range r.Number(judge) {
		l = append(l, take())
		if r.Err != nil {
			return nil
		}
	}
	return l
}

// end asks that nothing is left.
func (r *reader) end() {
	if r.Err == nil && r.At < len(r.Bytes) {
		r.Err = api.ErrMalformed
	}
}

// counted takes how many bytes follow, if judge has nothing against it, and these: judge must, if they are not all there.
func (r *reader) counted(judge judgeNumber) []byte {
	n := int(r.Number(judge))
	b := r.Bytes[r.At : r.At+n]
	r.At += n
	return bytes.Clone(b)
}

func (r *reader) kind() api.Kind { return api.Kind(r.Byte(judgeKind)) }

func (r *reader) flag() bool { return r.Byte(within(0, 1)) == 1 }

func (r *reader) funcType() api.Type {
	r.Byte(within(funcByte, funcByte))
	t := api.Type{Params: takeList(r, judgeItems, r.kind)}
	for _, k := range takeList(r, atMost(1, api.ErrUnsupported), r.kind) {
		t.Result = k
	}
	return t
}

func (r *reader) table() api.Limits {
	r.Byte(within(tableByte, tableByte))
	return r.bounds()
}

func (r *reader) bounds() api.Limits {
	l := api.Limits{Has: r.flag(), Min: r.Index()}
	if l.Has {
		l.Max = r.Index()
	}
	return l
}

func (r *reader) global() api.Global {
	return api.Global{Kind: r.kind(), Mut: r.flag(), Init: r.value()}
}

func (r *reader) export() api.Export {
	name := r.counted(judgeName)
	return api.Export{Name: string(name), What: r.Byte(within(0, lastWhat)), Index: r.Index()}
}

func (r *reader) elem() api.Elem {
	return api.Elem{Table: r.Index(), Offset: r.value(), Funcs: takeList(r, judgeItems, r.Index)}
}

func (r *reader) data() api.Data {
	return api.Data{Memory: r.Index(), Offset: r.value(), Bytes: r.counted(judgeData)}
}

// value takes a beginning value.
func (r *reader) value() api.Instr {
	op := r.Byte(judgeConst)
	in := api.Instr{Op: op, N: r.Signed(constBits(op))}
	r.Byte(judgeEnd)
	return in
}

// codes takes the code of all functions, whose types are known by now.
func (r *reader) codes() {
	funcs := r.module.Funcs
	asMany := func(n uint64, _ []byte) error {
		if n != uint64(len(funcs)) {
			return api.ErrMalformed
		}
		return nil
	}
	for i, code := range takeList(r, asMany, r.code) {
		funcs[i].Locals, funcs[i].Body = code.Locals, code.Body
	}
}

// code takes all of a function but its type.
func (r *reader) code() api.Func {
	n := int(r.Number(judgeLeft))
	section := r.Bytes
	r.Bytes = section[:r.At+n]
	f := api.Func{Locals: r.locals(), Body: r.instrs()}
	r.end()
	r.Bytes = section
	return f
}

func (r *reader) locals() []api.Kind {
	count := uint64(0)
	asFew := func(n uint64, _ []byte) error {
		if count+n > api.MaxLocals {
			return api.ErrLimit
		}
		return nil
	}
	runs := takeList(r, judgeItems, func() []api.Kind {
		n := r.Number(asFew)
		count += n
		return slices.Repeat([]api.Kind{r.kind()}, int(n))
	})
	return slices.Concat(runs...)
}

func (r *reader) instrs() []api.Instr {
	if r.Err != nil {
		return nil
	}
	l, n, err := expr.Decode(r.Bytes[r.At:])
	// Beside an error n is the place of what is wrong.
	r.At += n
	r.Err = err
	return l
}

// within is a judge of bytes of meaning, from one up to another.
func within(first, last byte) func(c byte) error {
	return func(c byte) error {
		if c < first || last < c {
			return api.ErrMalformed
		}
		return nil
	}
}

// atMost is a judge of numbers, which answers an error of those above the most.
func atMost(most uint64, above error) judgeNumber {
	return func(n uint64, _ []byte) error {
		if n > most {
			return above
		}
		return nil
	}
}

// judgeItems is of how many items most lists have.
func judgeItems(n uint64, _ []byte) error {
	if n > maxItems {
		return api.ErrLimit
	}
	return nil
}

// judgeLeft is of how many bytes follow.
func judgeLeft(n uint64, left []byte) error {
	if n > uint64(len(left)) {
		return api.ErrEnd
	}
	return nil
}

func judgeData(n uint64, left []byte) error {
	if n > maxData {
		return api.ErrLimit
	}
	return judgeLeft(n, left)
}

// judgeName says ErrMalformed first, where a name is too long as well: so the rule names them.
func judgeName(n uint64, left []byte) error {
	if n <= uint64(len(left)) && !sect.Text(left[:n]) {
		return api.ErrMalformed
	}
	if n > maxItems {
		return api.ErrLimit
	}
	return judgeLeft(n, left)
}

func judgeKind(c byte) error {
	switch c {
	case byte(api.I32), byte(api.I64):
		return nil
	case f32Byte, f64Byte:
		return api.ErrUnsupported
	}
	return api.ErrMalformed
}

// judgeConst is of a beginning value's first byte.
func judgeConst(c byte) error {
	switch {
	case constBits(c) != 0:
		return nil
	case c == f32Const, c == f64Const:
		return api.ErrUnsupported
	}
	return api.ErrInvalid
}

func judgeEnd(c byte) error {
	if c != endByte {
		return api.ErrInvalid
	}
	return nil
}

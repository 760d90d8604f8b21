package expr

import (
	"math"

	"mandrel/api"
	"mandrel/leb"
	"mandrel/ops"
)

// reader takes parts off bytes, one after another. At the first one that is wrong it stays, and takes none any more: each part is 0 from then on.
type reader struct {
	bytes []byte
	at    int // where the next part begins, or the wrong one
	count int // the instructions so far
	err   error
}

// list takes instructions within so many blocks, and the byte behind them, which it answers: the one that ends them, or, if it may be, that of an else.
func (r *reader) list(nest int, mayElse bool) ([]api.Instr, byte) {
	var l []api.Instr
	for {
		op := r.oneByte(func(c byte) error { return r.judgeOp(c, nest, mayElse) })
		if r.err != nil || op == endByte || op == elseByte {
			return l, op
		}
		r.count++
		l = append(l, r.instr(op, nest))
	}
}

// instr takes what stands behind an instruction's number.
func (r *reader) instr(op byte, nest int) api.Instr {
	in := api.Instr{Op: op}
	mayElse := false
	// There is a form, or the number would have been wrong.
	form, _ := ops.Form(op)
	switch form {
	case ops.Const32:
		in.N = r.signed(32)
	case ops.Const64:
		in.N = r.signed(64)
	case ops.Index:
		in.N = int64(r.unsigned())
	case ops.Address:
		in.Align = r.unsigned()
		in.Offset = r.unsigned()
	case ops.Memory:
		r.oneByte(judgeZero)
	case ops.Table:
		in.Labels = r.labels()
	case ops.Call:
		in.N = int64(r.unsigned())
		r.oneByte(judgeZero)
	case ops.If:
		mayElse = true
		fallthrough
	case ops.Block:
		in.Result = r.kind()
		in.Body, in.Else = r.bodies(nest+1, mayElse)
	}
	return in
}

// bodies takes a block's instructions, and those of an else, if it may have one and does.
func (r *reader) bodies(nest int, mayElse bool) (body, other []api.Instr) {
	body, end := r.list(nest, mayElse)
	if end == elseByte {
		other, _ = r.list(nest, false)
	}
	return body, other
}

func (r *reader) labels() []uint32 {
	beside := r.unsignedUpTo(MaxLabels)
	labels := make([]uint32, beside+1)
	for i := range labels {
		labels[i] = r.unsigned()
	}
	return labels
}

func (r *reader) kind() api.Kind {
	c := r.oneByte(judgeKind)
	if c == noneByte {
		return api.None
	}
	return api.Kind(c)
}

// oneByte takes a part of one byte, if it is there and judge has nothing against it.
func (r *reader) oneByte(judge func(c byte) error) byte {
	if r.err == nil && r.at == len(r.bytes) {
		r.err = api.ErrEnd
	}
	if r.err != nil {
		return 0
	}
	c := r.bytes[r.at]
	if r.err = judge(c); r.err != nil {
		return 0
	}
	r.at++
	return c
}

func (r *reader) unsigned() uint32 { return r.unsignedUpTo(math.MaxUint32) }

// unsignedUpTo takes a number that must not be above most.
func (r *reader) unsignedUpTo(most uint64) uint32 {
	if r.err != nil {
		return 0
	}
	v, n, err := leb.TakeU(r.bytes[r.at:], 32)
	if err == nil && v > most {
		err = api.ErrLimit
	}
	if r.err = err; err != nil {
		return 0
	}
	r.at += n
	return uint32(v)
}

func (r *reader) signed(bits int) int64 {
	if r.err != nil {
		return 0
	}
	v, n, err := leb.TakeS(r.bytes[r.at:], bits)
	// Beside an error both are 0.
	r.at += n
	r.err = err
	return v
}

// judgeOp is what is wrong with an instruction's number, or with a byte in the place of one.
func (r *reader) judgeOp(c byte, nest int, mayElse bool) error {
	if c == endByte || c == elseByte && mayElse {
		return nil
	}
	if ops.Float(c) {
		return api.ErrUnsupported
	}
	form, err := ops.Form(c)
	if err != nil {
		return api.ErrMalformed
	}
	if r.count == api.MaxBody || isBlock(form) && nest == api.MaxNest {
		return api.ErrLimit
	}
	return nil
}

func judgeKind(c byte) error {
	switch c {
	case noneByte, byte(api.I32), byte(api.I64):
		return nil
	case f32Byte, f64Byte:
		return api.ErrUnsupported
	}
	return api.ErrMalformed
}

func judgeZero(c byte) error {
	if c != 0 {
		return api.ErrMalformed
	}
	return nil
}

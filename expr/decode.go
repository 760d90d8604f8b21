package expr

import (
	"mandrel/api"
	"mandrel/ops"
	"mandrel/parts"
)

// reader takes instructions part by part.
type reader struct {
	parts.Reader
	count int // the instructions so far
}

// list takes instructions within so many blocks, and the byte behind them, which it answers: the one that ends them, or, if it may be, that of an else.
func (r *reader) list(nest int, mayElse bool) ([]api.Instr, byte) {
	var l []api.Instr
	for {
		op := r.Byte(func(c byte) error { return r.judgeOp(c, nest, mayElse) })
		if r.Err != nil || op == endByte || op == elseByte {
			return l, op
		}
		r.count++
		l = append(l, r.instr(op, nest))
	}
}

// instr takes what stands behind an instruction's number.
func (r *reader) instr(op byte, nest int) api.Instr {
	in := api.Instr{Op: op}
	mayElse := false
	// There is a form, or the number would have been wrong.
	form, _ := ops.Form(op)
	switch form {
	case ops.Const32:
		in.N = r.Signed(32)
	case ops.Const64:
		in.N = r.Signed(64)
	case ops.Index:
		in.N = int64(r.Index())
	case ops.Address:
		in.Align = r.Index()
		in.Offset = r.Index()
	case ops.Memory:
		r.Byte(judgeZero)
	case ops.Table:
		in.Labels = r.labels()
	case ops.Call:
		in.N = int64(r.Index())
		r.Byte(judgeZero)
	case ops.If:
		mayElse = true
		fallthrough
	case ops.Block:
		in.Result = r.kind()
		in.Body, in.Else = r.bodies(nest+1, mayElse)
	}
	return in
}

// bodies takes a block's instructions, and those of an else, if it may have one and does.
func (r *reader) bodies(nest int, mayElse bool) (body, other []api.Instr) {
	body, end := r.list(nest, mayElse)
	if end == elseByte {
		other, _ = r.list(nest, false)
	}
	return body, other
}

func (r *reader) labels() []uint32 {
	beside := r.Number(judgeLabels)
	labels := make([]uint32, beside+1)
	for i := range labels {
		labels[i] = r.Index()
	}
	return labels
}

func (r *reader) kind() api.Kind {
	c := r.Byte(judgeKind)
	if c == noneByte {
		return api.None
	}
	return api.Kind(c)
}

// judgeOp is what is wrong with an instruction's number, or with a byte in the place of one.
func (r *reader) judgeOp(c byte, nest int, mayElse bool) error {
	if c == endByte || c == elseByte && mayElse {
		return nil
	}
	if ops.Float(c) {
		return api.ErrUnsupported
	}
	form, err := ops.Form(c)
	if err != nil {
		return api.ErrMalformed
	}
	if r.count == api.MaxBody || isBlock(form) && nest == api.MaxNest {
		return api.ErrLimit
	}
	return nil
}

// judgeLabels is of how many labels there are beside the last one.
func judgeLabels(v uint64, _ []byte) error {
	if v > MaxLabels {
		return api.ErrLimit
	}
	return nil
}

func judgeKind(c byte) error {
	switch c {
	case noneByte, byte(api.I32), byte(api.I64):
		return nil
	case f32Byte, f64Byte:
		return api.ErrUnsupported
	}
	return api.ErrMalformed
}

func judgeZero(c byte) error {
	if c != 0 {
		return api.ErrMalformed
	}
	return nil
}

package expr

import (
	"mandrel/api"
	"mandrel/leb"
	"mandrel/ops"
)

// writer lays instructions that may be, one part behind another.
type writer struct {
	bytes []byte
}

func (w *writer) one(c byte) { w.bytes = append(w.bytes, c) }

// unsigned lays only the number by leb, as leb copies all that it is laid behind.
func (w *writer) unsigned(v uint64) { w.bytes = append(w.bytes, leb.PutU(nil, v)...) }

func (w *writer) signed(v int64) { w.bytes = append(w.bytes, leb.PutS(nil, v)...) }

// list lays instructions, without a byte that ends them.
func (w *writer) list(l []api.Instr) {
	for _, in := range l {
		w.one(in.Op)
		w.fields(in)
	}
}

// fields lays what stands behind an instruction's number.
func (w *writer) fields(in api.Instr) {
	// There is a form, or the instruction could not be.
	form, _ := ops.Form(in.Op)
	switch form {
	case ops.Const32, ops.Const64:
		w.signed(in.N)
	case ops.Index:
		w.unsigned(uint64(in.N))
	case ops.Address:
		w.unsigned(uint64(in.Align))
		w.unsigned(uint64(in.Offset))
	case ops.Memory:
		w.one(0)
	case ops.Block, ops.If:
		w.block(in)
	case ops.Table:
		w.labels(in.Labels)
	case ops.Call:
		w.unsigned(uint64(in.N))
		w.one(0)
	}
}

// block lays an if's as it does a block's, which has no Else.
func (w *writer) block(in api.Instr) {
	w.one(kindByte(in.Result))
	w.list(in.Body)
	if len(in.Else) > 0 {
		w.one(elseByte)
		w.list(in.Else)
	}
	w.one(endByte)
}

func (w *writer) labels(labels []uint32) {
	w.unsigned(uint64(len(labels) - 1))
	for _, label := range labels {
		w.unsigned(uint64(label))
	}
}

func kindByte(k api.Kind) byte {
	if k == api.None {
		return noneByte
	}
	return byte(k)
}

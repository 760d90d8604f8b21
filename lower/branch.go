package lower

import (
	"mandrel/api"
	"mandrel/opcode"
	"mandrel/vcode"
)

// open begins instructions with a label at their end, which hands on a value of a kind, or none.
func (w *walk) open(result api.Kind) {
	w.labels = append(w.labels, label{block: nowhere, height: w.height, hands: many(result), depth: w.depth})
}

// close goes on behind the innermost label: in the block that is being laid, or, if a branch leads there too, in one of its own.
func (w *walk) close() {
	l := w.labels[w.innermost()]
	w.labels = w.labels[:w.innermost()]
	if l.block == nowhere {
		return
	}
	if w.at != nowhere {
		w.end(vcode.Jump, nil, l.block)
	}
	w.begin(l.block)
	w.height = l.height + l.hands
}

// loop: its label is at its begin, and hands on nothing.
func (w *walk) loop(in *api.Instr) {
	w.depth++
	head := w.newBlock()
	w.end(vcode.Jump, nil, head)
	w.begin(head)
	w.labels = append(w.labels, label{block: head, height: w.height, depth: w.depth})
	w.list(in.Body)
	w.labels = w.labels[:w.innermost()]
	w.depth--
	if w.at != nowhere {
		// What stands behind the loop comes into the same block: it has left the loop, as no way leads from there to its begin, but from outside.
		w.blocks[w.at].Depth = toldDepth(w.depth)
	}
}

func (w *walk) ifElse(in *api.Instr) {
	by := w.take(1)
	w.open(in.Result)
	height := w.height
	then := w.newBlock()
	other := w.otherwise(in.Else)
	w.end(vcode.Branch, by, then, other)
	w.begin(then)
	w.list(in.Body)
	if len(in.Else) > 0 {
		if w.at != nowhere {
			w.branch(w.innermost())
		}
		w.begin(other)
		w.height = height
		w.list(in.Else)
	}
	w.close()
}

// otherwise is the block where an if goes on whose value is 0: behind it, if there is no else.
func (w *walk) otherwise(l []api.Instr) int {
	if len(l) == 0 {
		return w.target(w.innermost())
	}
	return w.newBlock()
}

// innermost is the place of the innermost label.
func (w *walk) innermost() int { return len(w.labels) - 1 }

// label is the place of the label of a number.
func (w *walk) label(n int64) int { return w.innermost() - int(n) }

// target is the block that a label stands for.
func (w *walk) target(at int) int {
	l := &w.labels[at]
	if l.block == nowhere {
		l.block = w.newBlockOf(*l)
	}
	return l.block
}

// newBlockOf is a block within the loops that stand about a label alone.
func (w *walk) newBlockOf(l label) int {
	b := w.newBlock()
	w.blocks[b].Depth = toldDepth(l.depth)
	return b
}

// leave gives back what the body gives.
func (w *walk) leave() { w.end(opcode.Return, w.top(w.gives)) }

// branch goes to a label, with what that hands on.
func (w *walk) branch(at int) {
	if at == 0 {
		w.leave()
		return
	}
	if w.standsHigher(at) {
		l := w.labels[at]
		w.put(vcode.Ins{Op: vcode.Move, Src: w.top(l.hands), Dst: w.locals + l.height})
	}
	w.end(vcode.Jump, nil, w.target(at))
}

// standsHigher says whether what a label hands on stands higher now than it has to behind the label.
func (w *walk) standsHigher(at int) bool {
	l := w.labels[at]
	return l.hands > 0 && w.height > l.height+l.hands
}

// way is the block to which an end goes that has other ways beside that to a label: one ahead of the label's, where a value has to be moved on this way alone.
func (w *walk) way(at int) int {
	if !w.standsHigher(at) {
		return w.target(at)
	}
	here := w.at
	between := w.newBlockOf(w.labels[at])
	w.begin(between)
	w.branch(at)
	w.begin(here)
	return between
}

func (w *walk) branchIf(at int) {
	by := w.take(1)
	way := w.way(at)
	next := w.newBlock()
	w.end(vcode.Branch, by, way, next)
	w.begin(next)
}

func (w *walk) branchTable(labels []uint32) {
	by := w.take(1)
	var next []int
	ways := map[uint32]int{}
	for _, n := range withoutSameEnd(labels) {
		way, ok := ways[n]
		if !ok {
			way = w.way(w.label(int64(n)))
			ways[n] = way
		}
		next = append(next, way)
	}
	w.end(vcode.Table, by, next...)
}

// withoutSameEnd leaves out labels that only say what the last one, which is for all others, says too: of those there may be more than a table has ways.
func withoutSameEnd(labels []uint32) []uint32 {
	last := len(labels) - 1
	for last > 0 && labels[last-1] == labels[last] {
		last--
	}
	return labels[:last+1]
}

package notation

import (
	"strconv"
	"strings"

	"mandrel/ops"
	"mandrel/vcode"
)

// Virtual is code of virtual registers out of the lines that package vcode tells of it; blanks at a line's begin and its end are left out, and a ; is the end of a line, too. It panics, if the lines are wrong.
func Virtual(text string) vcode.Code {
	lines := strings.FieldsFunc(text, func(r rune) bool { return r == '\n' || r == ';' })
	var c vcode.Code
	first := true
	for _, line := range lines {
		n := notes{strings.Fields(line)}
		switch {
		case len(n.words) == 0:
			continue
		case first:
			c, first = n.firstLine(), false
		case n.has("block"):
			c.Blocks = append(c.Blocks, n.blockLine(len(c.Blocks)))
		case len(c.Blocks) == 0:
			panic("no block: " + line)
		default:
			b := &c.Blocks[len(c.Blocks)-1]
			b.Ins = append(b.Ins, n.insLine())
			b.Next = n.nextBlocks()
		}
		if len(n.words) > 0 {
			panic("left over: " + line)
		}
	}
	return c
}

// must takes a word that there has to be.
func (n *notes) must(word string) {
	if !n.has(word) {
		panic("no " + word)
	}
}

func (n *notes) firstLine() vcode.Code {
	var c vcode.Code
	n.must("regs")
	c.Regs = int(n.number())
	n.must("params")
	c.Params = int(n.number())
	c.Result = n.has("result")
	return c
}

func (n *notes) blockLine(at int) vcode.Block {
	n.must(strconv.Itoa(at))
	n.must("depth")
	return vcode.Block{Depth: int(n.number())}
}

func (n *notes) insLine() vcode.Ins {
	in := vcode.Ins{Dst: -1}
	if r, ok := n.register(); ok {
		in.Dst = r
		n.must("=")
	}
	in.Op = virtualOp(n.next())
	for {
		r, ok := n.register()
		if !ok {
			break
		}
		in.Src = append(in.Src, r)
	}
	if len(n.words) == 0 || n.words[0] == "->" {
		return in
	}
	if strings.HasPrefix(n.words[0], "+") {
		in.Offset = n.offset()
		return in
	}
	in.N = n.number()
	return in
}

// register takes one, if it comes next.
func (n *notes) register() (int, bool) {
	if len(n.words) == 0 {
		return 0, false
	}
	digits, ok := strings.CutPrefix(n.words[0], "r")
	if !ok {
		return 0, false
	}
	r, err := strconv.Atoi(digits)
	if err != nil {
		return 0, false
	}
	n.next()
	return r, true
}

func (n *notes) nextBlocks() []int {
	var out []int
	if !n.has("->") {
		return out
	}
	for len(n.words) > 0 {
		out = append(out, int(n.number()))
	}
	return out
}

func virtualOp(name string) byte {
	switch name {
	case "const":
		return 0x42
	case "move":
		return vcode.Move
	case "jump":
		return vcode.Jump
	case "branch":
		return vcode.Branch
	case "table":
		return vcode.Table
	}
	op, err := ops.Op(name)
	if err != nil {
		panic("no instruction: " + name)
	}
	return op
}

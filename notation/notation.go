// Package notation reads bodies out of short notes: the tests of several layers have theirs so.
//
// A note is the instructions' names, with a blank between any two words. Behind a name stands its number, where it has one; behind a load or a store its Align, and then + and its Offset, if that is not 0; behind br_table its labels, and a ;; behind block, loop and if a Result, if there is one, and ( instructions ), behind those of an if else ( instructions ), if there are some.
package notation

import (
	"strconv"
	"strings"

	"mandrel/api"
	"mandrel/ops"
)

// notes are the words that are not read yet.
type notes struct {
	words []string
}

// Code is the instructions of a note. It panics, if the note is wrong: that is a fault of the test that has it.
func Code(text string) []api.Instr {
	n := notes{strings.Fields(text)}
	l := n.list()
	if len(n.words) > 0 {
		panic("left over: " + strings.Join(n.words, " "))
	}
	return l
}

// next takes a word.
func (n *notes) next() string {
	if len(n.words) == 0 {
		panic("the note ends too early")
	}
	word := n.words[0]
	n.words = n.words[1:]
	return word
}

// has takes a word, if it comes next.
func (n *notes) has(word string) bool {
	if len(n.words) == 0 || n.words[0] != word {
		return false
	}
	n.words = n.words[1:]
	return true
}

func (n *notes) number() int64 {
	word := n.next()
	v, err := strconv.ParseInt(word, 10, 64)
	if err != nil {
		panic("no number: " + word)
	}
	return v
}

// list takes instructions up to a ), or to the end.
func (n *notes) list() []api.Instr {
	var l []api.Instr
	for len(n.words) > 0 && n.words[0] != ")" {
		l = append(l, n.instr())
	}
	return l
}

func (n *notes) inBrackets() []api.Instr {
	if !n.has("(") {
		panic("no (")
	}
	l := n.list()
	if !n.has(")") {
		panic("no )")
	}
	return l
}

func (n *notes) instr() api.Instr {
	name := n.next()
	op, err := ops.Op(name)
	if err != nil {
		panic("no instruction: " + name)
	}
	in := api.Instr{Op: op}
	// No error: what has a name has a form.
	form, _ := ops.Form(op)
	switch form {
	case ops.Const32, ops.Const64, ops.Index, ops.Call:
		in.N = n.number()
	case ops.Address:
		in.Align = uint32(n.number())
		in.Offset = n.offset()
	case ops.Table:
		for !n.has(";") {
			in.Labels = append(in.Labels, uint32(n.number()))
		}
	case ops.Block, ops.If:
		in.Result = n.kind()
		in.Body = n.inBrackets()
		if form == ops.If && n.has("else") {
			in.Else = n.inBrackets()
		}
	}
	return in
}

func (n *notes) offset() uint32 {
	if len(n.words) == 0 || n.words[0][0] != '+' {
		return 0
	}
	// A number may have a + ahead.
	return uint32(n.number())
}

func (n *notes) kind() api.Kind {
	switch {
	case n.has("i32"):
		return api.I32
	case n.has("i64"):
		return api.I64
	}
	return api.None
}

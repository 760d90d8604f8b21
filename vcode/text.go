package vcode

import (
	"strconv"

	"mandrel/api"
	"mandrel/shape"
)

// Text is code as lines.
func Text(c Code) (string, error) {
	if err := Check(c); err != nil {
		return "", err
	}
	out := firstLine(c)
	for i, b := range c.Blocks {
		out = append(out, "block "+strconv.Itoa(i)+" depth "+strconv.Itoa(b.Depth)+"\n"...)
		for _, in := range b.Ins {
			out = appendLine(out, in, b.Next)
		}
	}
	if len(out) > api.MaxText {
		return "", api.ErrLong
	}
	return string(out), nil
}

func firstLine(c Code) []byte {
	line := "regs " + strconv.Itoa(c.Regs) + " params " + strconv.Itoa(c.Params)
	if c.Result {
		line += " result"
	}
	return []byte(line + "\n")
}

// appendLine lays the line of an instruction of a block that leads to next.
func appendLine(out []byte, in Ins, next []int) []byte {
	out = append(out, "  "...)
	if shape.Gives(shape.Ins(in)) {
		out = append(out, "r"+strconv.Itoa(in.Dst)+" = "...)
	}
	out = append(out, shape.Name(in.Op)...)
	for _, r := range in.Src {
		out = append(out, " r"+strconv.Itoa(r)...)
	}
	if shape.Numbered(in.Op) {
		out = append(out, " "+strconv.FormatInt(in.N, 10)...)
	}
	if shape.Accesses(in.Op) {
		out = append(out, " +"+strconv.FormatUint(uint64(in.Offset), 10)...)
	}
	if Ends(in.Op) && len(next) > 0 {
		out = append(out, " ->"...)
		for _, b := range next {
			out = append(out, " "+strconv.Itoa(b)...)
		}
	}
	return append(out, '\n')
}
